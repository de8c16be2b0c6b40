/- OnLine of the program and of the model. -/
import Derived.Test.YtgcheplneolonabSl
import Derived.Test.YtgcheplneolonabEqs
namespace Go.Proofs.Ytgcheplneolonab.Ol
open Go.RowKit Go.ChangeShapes Go.WideShapes Go.WideElems Go.Deep Go.Proofs.Ytgcheplneolonab.Mem Go.Proofs.Ytgcheplneolonab.Rw Go.Proofs.Ytgcheplneolonab.Pw Go.Proofs.Ytgcheplneolonab.P2 Go.Proofs.Ytgcheplneolonab.Dd Go.Proofs.Ytgcheplneolonab.Dv Go.Proofs.Ytgcheplneolonab.Dl Go.Proofs.Ytgcheplneolonab.Ds Go.Proofs.Ytgcheplneolonab.Fd Go.Proofs.Ytgcheplneolonab.Ch Go.Proofs.Ytgcheplneolonab.Hn Go.Proofs.Ytgcheplneolonab.Po
set_option linter.unusedVariables false
set_option linter.unusedSimpArgs false
open Go.Proofs.Ytgcheplneolonab.Ho Go.Proofs.Ytgcheplneolonab.Pa Go.Proofs.Ytgcheplneolonab.Di Go.Proofs.Ytgcheplneolonab.Ig Go.Proofs.Ytgcheplneolonab.Ir Go.Proofs.Ytgcheplneolonab.Iq Go.Proofs.Ytgcheplneolonab.IsName Go.Proofs.Ytgcheplneolonab.Pu Go.Proofs.Ytgcheplneolonab.Sl
open Go.Proofs.Ytgcheplneolonab.Strs (infoStr)
open Go.Proofs.Ytgcheplneolonab.Rw (owns_below owns_grown)

/-- Whether a device of a rig is on a line. -/
noncomputable def tB (zs : List D) (s : ByteArray) (d : D) : Bool := rig zs && (!(s.toList == []) && sb d.ln s)
/-- The names on a line. -/
noncomputable def olV (zs : List D) (s : ByteArray) (l : List D) : List ByteArray := (l.filter (tB zs s)).map D.nm
theorem olV_yes {zs : List D} {s : ByteArray} {k : Nat} {d : D} (hd : zs[k]? = some d) (h : tB zs s d = true) : olV zs s (zs.take (k + 1)) = olV zs s (zs.take k) ++ [d.nm] := by
  obtain ⟨hk, rfl⟩ := List.getElem?_eq_some_iff.1 hd
  unfold olV; rw [List.take_succ_eq_append_getElem hk, List.filter_append]; simp [h]
theorem olV_no {zs : List D} {s : ByteArray} {k : Nat} {d : D} (hd : zs[k]? = some d) (h : tB zs s d = false) : olV zs s (zs.take (k + 1)) = olV zs s (zs.take k) := by
  obtain ⟨hk, rfl⟩ := List.getElem?_eq_some_iff.1 hd
  unfold olV; rw [List.take_succ_eq_append_getElem hk, List.filter_append]; simp [h]
theorem olV_len (zs : List D) (s : ByteArray) (l : List D) : (olV zs s l).length ≤ l.length := by
  unfold olV; rw [List.length_map]; exact List.length_filter_le _ _
theorem olV_none {zs : List D} (s : ByteArray) (h : rig zs = false) (l : List D) : olV zs s l = [] := by
  have : l.filter (tB zs s) = [] := List.filter_eq_nil_iff.2 fun d _ => by unfold tB; rw [h]; simp
  unfold olV; rw [this]; rfl
/-- A row of the call's own that holds these names. -/
def RowS (w : World) (ns : List ByteArray) (e : Ending) (w' : World) : Prop :=
  ∃ g c, e = .returned (.slice (some ⟨g, 0, none⟩) ns.length c) ∧ w'.ownsRow w.heap.size 9 1 (.slice (some ⟨g, 0, none⟩) ns.length c) ns.length (Strs.strs ns) ∧ Below w.heap.size w w'
theorem own_mk {w : World} {base n : Nat} {v : Value} {xs : List Value} (h : w.ownsRow base 9 1 v (n + 1) xs) : ∃ g c, v = .slice (some ⟨g, 0, none⟩) (n + 1) c := by
  rcases h.2 with ⟨_, e⟩ | ⟨g, cap, cur, e, _⟩
  · omega
  · exact ⟨g, cap, e⟩
theorem own_base {w : World} {base n : Nat} {v : Value} {xs : List Value} (h : w.ownsRow base 9 1 v n xs) : ∀ k, v.ownBlock = some k → base ≤ k := fun k e => (h.lt k e).1
theorem strs_snoc (zs : List ByteArray) (z : ByteArray) : Strs.strs zs ++ [.string z] = Strs.strs (zs ++ [z]) := by simp [Strs.strs]
/-- A row of texts is no map, and no row of parts. -/
theorem ne_map {w : World} {base n b : Nat} {v : Value} {xs : List Value} {M : List (ByteArray × Nat)} (h : w.ownsRow base 9 1 v n xs) (k : Ls w b M) : v.ownBlock ≠ some b := by
  intro hb
  rcases h.2 with ⟨e1, _⟩ | ⟨g', cap, cur, e1, _, e3, _⟩
  · subst e1; cases hb
  · subst e1
    have hb : g' = b := Option.some.inj hb
    subst hb
    rw [show w.heap[g']? = _ from k] at e3
    cases e3
theorem ne_parts {w : World} {base base2 n n2 g c2 : Nat} {v : Value} {xs ys : List Value} (h : w.ownsRow base 9 1 v n xs) (k : w.ownsRow base2 64 1 (.slice (some ⟨g, 0, none⟩) n2 c2) n2 ys) : v.ownBlock ≠ some g := by
  intro hb
  rcases h.2 with ⟨e1, _⟩ | ⟨g', cap, cur, e1, _, e3, _⟩
  · subst e1; cases hb
  · subst e1
    have hb : g' = g := Option.some.inj hb
    subst hb
    rcases k.2 with ⟨f1, _⟩ | ⟨g2, cap2, cur2, f1, _, f3, _⟩
    · cases f1
    · injection f1 with f1
      injection f1 with f1
      injection f1 with f1
      subst f1
      rw [e3] at f3
      injection f3 with f3
      injection f3 with _ f3
      exact absurd f3 (by decide)

theorem me_line2 (f : Nat) (n : ByteArray) (k : Int) (l : ByteArray) (x y h t m : Int) (c : Nat) (w : World) : (method (f + 1) 119 (hv n k l x y h t m c) "loop.example/g03017/impl.line").run Try.prog w = .ok (111, hv n k l x y h t m c) w := by kernel_rfl
theorem me_line3 (f : Nat) (n : ByteArray) (k : Int) (l : ByteArray) (x y h t m : Int) (c : Nat) (w : World) : (method (f + 1) 120 (hv n k l x y h t m c) "loop.example/g03017/impl.line").run Try.prog w = .ok (111, hv n k l x y h t m c) w := by kernel_rfl
/-- The line of what hangs is the one that is asked for just if their channels are one. -/
theorem line_eq {zs : List D} (H : Rig zs) {M : List (ByteArray × Nat)} (hM : Made zs [] M) {W : World} (hG : Gd W M) (s : ByteArray) {k : Nat} {d : D} (hd : zs[k]? = some d) (hk : d.kd = 2 ∨ d.kd = 3) :
    tB zs s d = ((some ((lk M d.ln).getD 0) : Option Nat) == lk M s) := by
  unfold tB
  rw [rig_yes H, Bool.true_and]
  rcases kinds H hd with ⟨e, _⟩ | ⟨_, hl, _⟩
  · omega
  · cases hc : lk M d.ln with
    | none => exact absurd hc (hM.all d (mem_at hd) hk)
    | some c =>
      rw [Option.getD_some]
      cases hs : sb d.ln s
      · rw [Bool.and_false]
        cases hm : lk M s with
        | none => rfl
        | some c2 =>
          by_cases e : c = c2
          · subst e
            have := hG.2 _ _ _ hc hm
            rw [this] at hs
            rw [sb_self] at hs; cases hs
          · simp [e]
      · have e : d.ln = s := toList_inj (by unfold sb at hs; simpa using hs)
        rw [← e, hl, hc]; simp

set_option maxHeartbeats 8000000 in
set_option maxRecDepth 100000 in
theorem onI (A : Option Addr) (n0 c9 : Nat) (zs : List D) (s : ByteArray) (w : World) (hn : zs.length = n0) (hb : n0 ≤ 1048576) (hr : Rd w w.heap.size A (dls zs)) :
    Calls Try.prog 12 #[.slice A n0 c9, .string s] w (RowS w (olV zs s zs)) := by
  have hu : undef = Value.tuple #[] := rfl
  have hmm := @run_makeMap Try.prog
  have HR := Lib.hid hr
  have HN := Lib.hid hn
  have CR := Lib.hid (rigI A n0 c9 zs (w.alloc (.cells #[] 9)) hn hb ((hr.below (by go_grown)).more (by simp)))
  have R0 := Lib.hid (World.ownsRow_lit (base := w.heap.size) (e := 9) (size := 1) w #[] 0 (Nat.le_refl _) (Nat.zero_le _) rfl)
  have B0 := Lib.hid (show Below w.heap.size w (w.alloc (.cells #[] 9)) from by go_grown)
  obtain ⟨i0, hi, hz0, hz1, hz2⟩ := info_of infoStr
  clear hr hn
  by_cases hrig : rig zs = true
  · have HH := Lib.hid (rig_of hrig)
    rw [hrig] at CR
    clear hrig
    go_enter Try.func12, Try.ntmps12
    go_wp2_with fail
    refine CR.out.mono ?_
    rintro e w1 ⟨rfl, hb1⟩
    have B1 := Lib.hid (B0.out.trans (hb1.mono B0.out.size))
    have RA := Lib.hid (owns_below R0.out hb1)
    have CP := Lib.hid (partsOf A n0 c9 w1.heap.size zs [] w.heap.size (w1.alloc (.map #[] 0)) HN.out hb (by have := B1.out.size; simp; omega) ((HR.out.below B1.out).below (Below.mono (by go_grown) B1.out.size)) (by
      have hs := B1.out.size
      rcases HR.out with h | ⟨b', o', e, hb', _⟩
      · exact Or.inr h
      · refine Or.inl ?_; rw [e]; simp; omega) (Ls.made w1) (Gd.nil _))
    clear hb1 CR R0
    go_wp2_with fail
    refine CP.out.mono ?_
    rintro e w2 ⟨g, M, rfl, HP⟩
    have HP := Lib.hid HP
    have W2 := Lib.hid (show Below w1.heap.size w1 w2 from Below.grown (by go_grown) HP.out.grown (by simp) (fun k hk => by cases hk; exact Nat.le_refl _))
    have B2 := Lib.hid (B1.out.trans (W2.out.mono B1.out.size))
    have RB := Lib.hid (owns_below RA.out W2.out)
    have L2 := Lib.hid HP.out.ls
    have P2 := Lib.hid HP.out.row
    have MM := Lib.hid HP.out.made
    have GD := Lib.hid HP.out.gd
    have q1 := run_chanEq
    clear hmm CP RA HP W2 B1
    go_wp2_with fail
    go_loopw [5, 21] (fun v i wr => ∃ k q : Nat, k ≤ n0 ∧ i = .int .i64 k ∧ (∃ b c, v = .slice (some ⟨b, 0, none⟩) q c) ∧ Hid ((olV zs s (zs.take k)).length = q) ∧ Hid (wr.ownsRow w.heap.size 9 1 v q (Strs.strs (olV zs s (zs.take k)))) ∧ Hid (Ls wr w1.heap.size M) ∧ Hid (wr.ownsRow (w1.alloc (.map #[] 0)).heap.size 64 1 (.slice (some ⟨g, 0, none⟩) n0 n0) n0 (zs.map (ptM M))) ∧ Hid (Below w.heap.size w wr)) (fun _ i _ => n0 - (intOf i).toNat)
    case atStart => exact ⟨0, 0, Nat.zero_le _, rfl, ⟨_, _, rfl⟩, Lib.hid (by simp [olV]), RB, L2, P2, B2⟩
    case round =>
      obtain ⟨k, q, hk, rfl, ⟨gb, gc, rfl⟩, QL, RK, LK, PK, BK⟩ := hrel
      clear RB L2 P2 B2
      by_cases hlt : k < n0
      · obtain ⟨z, hz⟩ : ∃ z, zs[k]? = some z := ⟨_, List.getElem?_eq_getElem (by rw [HN.out]; exact hlt)⟩
        have HZ := Lib.hid hz
        have hp : wr.cell? ⟨g, k, none⟩ = some (ptM M z) := by
          have := PK.out.cellAt k (by show k < n0 * 1; omega)
          rw [List.getElem?_map, hz, Option.map_some] at this
          exact this
        have LE := fun hk => line_eq HH.out MM.out GD.out s hz hk
        have RW := Lib.hid (HR.out.below BK.out)
        obtain ⟨b, o, eA, hbl, hcell⟩ := RW.out.get (k := k * 8) (by rw [dls_len, HN.out]; omega)
        have hnm := hcell _ _ (dls_get hz).1
        obtain ⟨n, q9, l, x, y, h, t, m⟩ := z
        unfold ptM at hp
        simp only [] at hp LE hnm
        have QN := Lib.hid (fun h => olV_no (s := s) HZ.out h)
        have QY := Lib.hid (fun h => olV_yes (s := s) HZ.out h)
        simp only [] at QY
        generalize (lk M l).getD 0 = c at hp LE
        clear hcell hz
        subst eA
        by_cases e1 : q9 = 1
        · subst e1
          have HQN := Lib.hid (QN.out (show tB zs s ⟨n, 1, l, x, y, h, t, m⟩ = false by
            rcases kinds HH.out HZ.out with ⟨_, hl⟩ | ⟨hk9, _⟩
            · unfold tB
              have hl' : l.toList = [] := by simpa using hl
              cases hs : (s.toList == [])
              · have : sb l s = false := by
                  unfold sb; rw [hl']
                  cases e : s.toList with
                  | nil => rw [e] at hs; cases hs
                  | cons a r => rfl
                simp [this]
              · simp
            · exact absurd hk9 (by simp only []; omega)))
          rw [show pt n 1 l x y h t m c = .iface 114 (va n 1 l x y h t m) from rfl] at hp
          have ta := as_pump
          go_wp2_with fail
          refine wp_region_noPanic ?_
          refine wp_region_held_drew (S := (fun w' => Below wr.heap.size wr w')) (by kernel_rfl) ?_ (fun hH => ?_)
          · exact (Below.refl _ _).drew
          refine wpAnyH_take (i := 0) (oi := { dst := some 31, op := _, type := _, pos := _, after := _, guard := _ }) (v := ?_) rfl (by kernel_rfl) (by kernel_rfl) (by kernel_rfl) (fun _ _ _ h => h) (Or.inl ⟨by rfl, ?_⟩) hH ?_
          rotate_left 1
          · intro W hSw
            (try dsimp only at hSw)
            go_simp
            (try with_reducible rfl)
          try simp only [Act.put, List.setIfInBounds_toArray, List.set_cons_zero, List.set_cons_succ]
          refine wpAnyH_take (i := 1) (oi := { dst := some 32, op := _, type := _, pos := _, after := _, guard := _ }) (v := ?_) rfl (by kernel_rfl) (by kernel_rfl) (by kernel_rfl) (fun _ _ _ h => h) (Or.inl ⟨by rfl, ?_⟩) hH ?_
          rotate_left 1
          · intro W hSw
            (try dsimp only at hSw)
            go_simp
            (try with_reducible rfl)
          try simp only [Act.put, List.setIfInBounds_toArray, List.set_cons_zero, List.set_cons_succ]
          refine wpAnyH_take (i := 2) (oi := { dst := some 33, op := _, type := _, pos := _, after := _, guard := _ }) (v := undef) rfl (by kernel_rfl) (by kernel_rfl) (by kernel_rfl) (fun _ _ _ h => h) (Or.inr ⟨by simp [Region.wanted, yielded, hu], rfl⟩) hH ?_
          try simp only [Act.put, List.setIfInBounds_toArray, List.set_cons_zero, List.set_cons_succ]
          refine wpAnyH_take (i := 3) (oi := { dst := some 34, op := _, type := _, pos := _, after := _, guard := _ }) (v := undef) rfl (by kernel_rfl) (by kernel_rfl) (by kernel_rfl) (fun _ _ _ h => h) (Or.inr ⟨by simp [Region.wanted, yielded, hu], rfl⟩) hH ?_
          try simp only [Act.put, List.setIfInBounds_toArray, List.set_cons_zero, List.set_cons_succ]
          refine wpAnyH_take (i := 4) (oi := { dst := some 35, op := _, type := _, pos := _, after := _, guard := _ }) (v := undef) rfl (by kernel_rfl) (by kernel_rfl) (by kernel_rfl) (fun _ _ _ h => h) (Or.inr ⟨by simp [Region.wanted, yielded, hu], rfl⟩) hH ?_
          try simp only [Act.put, List.setIfInBounds_toArray, List.set_cons_zero, List.set_cons_succ]
          refine wpAnyH_take (i := 5) (oi := { dst := some 36, op := _, type := _, pos := _, after := _, guard := _ }) (v := undef) rfl (by kernel_rfl) (by kernel_rfl) (by kernel_rfl) (fun _ _ _ h => h) (Or.inr ⟨by simp [Region.wanted, yielded, hu], rfl⟩) hH ?_
          try simp only [Act.put, List.setIfInBounds_toArray, List.set_cons_zero, List.set_cons_succ]
          refine wpAnyH_take (i := 6) (oi := { dst := some 37, op := _, type := _, pos := _, after := _, guard := _ }) (v := undef) rfl (by kernel_rfl) (by kernel_rfl) (by kernel_rfl) (fun _ _ _ h => h) (Or.inr ⟨by simp [Region.wanted, yielded, hu], rfl⟩) hH ?_
          try simp only [Act.put, List.setIfInBounds_toArray, List.set_cons_zero, List.set_cons_succ]
          refine wpAnyH_take (i := 7) (oi := { dst := some 38, op := _, type := _, pos := _, after := _, guard := _ }) (v := undef) rfl (by kernel_rfl) (by kernel_rfl) (by kernel_rfl) (fun _ _ _ h => h) (Or.inr ⟨by simp [Region.wanted, yielded, hu], rfl⟩) hH ?_
          try simp only [Act.put, List.setIfInBounds_toArray, List.set_cons_zero, List.set_cons_succ]
          refine wpAnyH_take (i := 8) (oi := { dst := some 39, op := _, type := _, pos := _, after := _, guard := _ }) (v := ?_) rfl (by kernel_rfl) (by kernel_rfl) (by kernel_rfl) (fun _ _ _ h => h) (Or.inl ⟨by rfl, ?_⟩) hH ?_
          rotate_left 1
          · intro W hSw
            (try dsimp only at hSw)
            go_simp
            (try with_reducible rfl)
          try simp only [Act.put, List.setIfInBounds_toArray, List.set_cons_zero, List.set_cons_succ]
          refine wpAnyH_done (by kernel_rfl) ?_ _
          refine NoPanic.normal ?_
          have LK2 := Lib.hid (LK.out.below hH LK.out.lt)
          have PK2 := Lib.hid (owns_below PK.out hH)
          have RK2 := Lib.hid (owns_below RK.out hH)
          have BK2 := Lib.hid (BK.out.trans (Below.mono hH BK.out.size))
          have hnm2 := (Below.cell hH (p := ⟨b, o + k * 8, none⟩) (Nat.lt_of_lt_of_le hbl BK.out.size)).trans hnm
          clear hH hnm
          go_wp2_with fail
          go_roundw
          case rel => first | exact ⟨k + 1, q, by omega, by go_num, ⟨_, _, rfl⟩, by rw [HQN.out]; exact QL, by rw [HQN.out]; exact RK2, LK2, PK2, BK2⟩ | ((repeat apply Exists.intro); exact ⟨⟨k + 1, q, by omega, by go_num, ⟨_, _, rfl⟩, by rw [HQN.out]; exact QL, by rw [HQN.out]; exact RK2, LK2, PK2, BK2⟩, rfl⟩)
          case measure => simp [intOf]; omega
        by_cases e2 : q9 = 2
        · subst e2
          rw [show pt n 2 l x y h t m c = .iface 119 (hv n 2 l x y h t m c) from rfl] at hp
          have ta := as_nozzle
          have le := LE (by simp)
          obtain ⟨cm, hcm⟩ : ∃ v, lk M s = v := ⟨_, rfl⟩
          rw [hcm] at le
          have CL := Lib.hid (fun W => lineG n 2 l x y h t m c W)
          obtain ⟨r, hr9⟩ : ∃ r, ((some c : Option Nat) == cm) = r := ⟨_, rfl⟩
          rw [hr9] at le
          have HLE := Lib.hid le
          clear le LE
          go_wp2_with fail
          refine wp_region_noPanic ?_
          refine wp_region_held_drew (S := (fun w' => Ls w' w1.heap.size M ∧ Below wr.heap.size wr w')) (by kernel_rfl) ?_ (fun hH => ?_)
          · exact ⟨LK.out.drew, (Below.refl _ _).drew⟩
          refine wpAnyH_take (i := 0) (oi := { dst := some 31, op := _, type := _, pos := _, after := _, guard := _ }) (v := ?_) rfl (by kernel_rfl) (by kernel_rfl) (by kernel_rfl) (fun _ _ _ h => h) (Or.inl ⟨by rfl, ?_⟩) hH ?_
          rotate_left 1
          · intro W hSw
            (try dsimp only at hSw)
            go_simp
            (try with_reducible rfl)
          try simp only [Act.put, List.setIfInBounds_toArray, List.set_cons_zero, List.set_cons_succ]
          refine wpAnyH_take (i := 1) (oi := { dst := some 32, op := _, type := _, pos := _, after := _, guard := _ }) (v := ?_) rfl (by kernel_rfl) (by kernel_rfl) (by kernel_rfl) (fun _ _ _ h => h) (Or.inl ⟨by rfl, ?_⟩) hH ?_
          rotate_left 1
          · intro W hSw
            (try dsimp only at hSw)
            go_simp
            (try with_reducible rfl)
          try simp only [Act.put, List.setIfInBounds_toArray, List.set_cons_zero, List.set_cons_succ]
          refine wpAnyH_take (i := 2) (oi := { dst := some 33, op := _, type := _, pos := _, after := _, guard := _ }) (v := ?_) rfl (by kernel_rfl) (by kernel_rfl) (by kernel_rfl) (fun _ _ _ h => h) (Or.inl ⟨by rfl, ?_⟩) hH ?_
          rotate_left 1
          · intro W hSw
            (try dsimp only at hSw)
            go_simp
            (try with_reducible rfl)
          try simp only [Act.put, List.setIfInBounds_toArray, List.set_cons_zero, List.set_cons_succ]
          refine wpAnyH_take (i := 4) (oi := { dst := some 35, op := _, type := _, pos := _, after := _, guard := _ }) (v := ?_) rfl (by kernel_rfl) (by kernel_rfl) (by kernel_rfl) (fun _ _ _ h => h) (Or.inl ⟨by rfl, ?_⟩) hH ?_
          rotate_left 1
          · intro W hSw
            (try dsimp only at hSw)
            go_simp
            (try with_reducible rfl)
          try simp only [Act.put, List.setIfInBounds_toArray, List.set_cons_zero, List.set_cons_succ]
          refine wpAnyH_take (i := 5) (oi := { dst := some 36, op := _, type := _, pos := _, after := _, guard := _ }) (v := ?_) rfl (by kernel_rfl) (by kernel_rfl) (by kernel_rfl) (fun _ _ _ h => h) (Or.inl ⟨by rfl, ?_⟩) hH ?_
          rotate_left 1
          · intro W hSw
            (try dsimp only at hSw)
            go_simp
            (try with_reducible rfl)
          try simp only [Act.put, List.setIfInBounds_toArray, List.set_cons_zero, List.set_cons_succ]
          refine wpAnyH_take (i := 6) (oi := { dst := some 37, op := _, type := _, pos := _, after := _, guard := _ }) (v := ?_) rfl (by kernel_rfl) (by kernel_rfl) (by kernel_rfl) (fun _ _ _ h => h) (Or.inl ⟨by rfl, ?_⟩) hH ?_
          rotate_left 1
          · intro W hSw
            (try dsimp only at hSw)
            have hlk := run_look hSw.1 s
            rw [hcm] at hlk
            go_simp
            (try with_reducible rfl)
          try simp only [Act.put, List.setIfInBounds_toArray, List.set_cons_zero, List.set_cons_succ]
          refine wpAnyH_ready (rs := [3]) (by kernel_rfl) (by simp) (AllReadyH.cons rfl (fun K hK => ?_) AllReadyH.nil)
          go_simp
          rw [me_line2]; go_simp; go_at_call 111; ((with_reducible refine (CL.out _).mono ?_); rintro e r1 ⟨rfl, hb9⟩); go_wp2_with fail
          refine hK.out _ _ ?_ (fun hG => ?_)
          · exact ⟨hH.1.below hb9 hH.1.lt, Below.trans hH.2 (hb9.mono hH.2.size)⟩
          replace hH := hG
          clear hK K hG
          try simp only [Act.put, List.setIfInBounds_toArray, List.set_cons_zero, List.set_cons_succ]
          refine wpAnyH_take (i := 7) (oi := { dst := some 38, op := _, type := _, pos := _, after := _, guard := _ }) (v := ?_) rfl (by kernel_rfl) (by kernel_rfl) (by kernel_rfl) (fun _ _ _ h => h) (Or.inl ⟨by rfl, ?_⟩) hH ?_
          rotate_left 1
          · intro W hSw
            (try dsimp only at hSw)
            go_simp
            (try with_reducible rfl)
          try simp only [Act.put, List.setIfInBounds_toArray, List.set_cons_zero, List.set_cons_succ]
          refine wpAnyH_take (i := 8) (oi := { dst := some 39, op := _, type := _, pos := _, after := _, guard := _ }) (v := ?_) rfl (by kernel_rfl) (by kernel_rfl) (by kernel_rfl) (fun _ _ _ h => h) (Or.inl ⟨by rfl, ?_⟩) hH ?_
          rotate_left 1
          · intro W hSw
            (try dsimp only at hSw)
            go_simp
            (try with_reducible rfl)
          try simp only [Act.put, List.setIfInBounds_toArray, List.set_cons_zero, List.set_cons_succ]
          refine wpAnyH_done (by kernel_rfl) ?_ _
          refine NoPanic.normal ?_
          have LK2 := Lib.hid (LK.out.below hH.2 LK.out.lt)
          have PK2 := Lib.hid (owns_below PK.out hH.2)
          have RK2 := Lib.hid (owns_below RK.out hH.2)
          have BK2 := Lib.hid (BK.out.trans (Below.mono hH.2 BK.out.size))
          have hnm2 := (Below.cell hH.2 (p := ⟨b, o + k * 8, none⟩) (Nat.lt_of_lt_of_le hbl BK.out.size)).trans hnm
          clear hH hnm
          cases r
          · have HQN := Lib.hid (QN.out HLE.out)
            go_wp2_with fail
            go_roundw
            case rel => first | exact ⟨k + 1, q, by omega, by go_num, ⟨_, _, rfl⟩, by rw [HQN.out]; exact QL, by rw [HQN.out]; exact RK2, LK2, PK2, BK2⟩ | ((repeat apply Exists.intro); exact ⟨⟨k + 1, q, by omega, by go_num, ⟨_, _, rfl⟩, by rw [HQN.out]; exact QL, by rw [HQN.out]; exact RK2, LK2, PK2, BK2⟩, rfl⟩)
            case measure => simp [intOf]; omega
          · have HQY := Lib.hid (QY.out HLE.out)
            have hown := RK2.out.alloc
            have HW := Lib.hid BK2.out.size
            have hq : q ≤ 1048576 := by have := olV_len zs s (zs.take k); have := QL.out; have := List.length_take_le k zs; omega
            go_wp2_with (at_builtin; refine wpList_append_own _ rfl _ _ 37 rfl w.heap.size 9 i0 (.string ByteArray.empty) 1 16 Try.underlying37 hi hz0 hz1 hz2 rfl (by decide) _ _ _ rfl (hown _) ⟨r1.heap.size, 0, none⟩ 1 1 [.string n] rfl rfl (by intro j u hj; match j, hj with | 0, hj => simp at hj; subst hj; simp [Addr.add]) (by intro u hu; simp at hu; subst hu; rfl) (by unfold maxLen; omega) (by omega) (by have := HW.out; simp; omega) ?_; intro v' w5 hown' hgrow hnil)
            rw [strs_snoc, ← HQY.out] at hown'
            obtain ⟨g5, c5, rfl⟩ := own_mk hown'
            have R6 := Lib.hid hown'
            have Q6 := Lib.hid (show (olV zs s (zs.take (k + 1))).length = q + 1 by rw [HQY.out, List.length_append, QL.out]; rfl)
            have n1 := ne_map RK2.out LK2.out
            have n2 := ne_parts RK2.out PK2.out
            have L6 := Lib.hid ((LK2.out.alloc (.cells #[.string n] 9)).grown hgrow (fun e => n1 e.symm))
            have P6 := Lib.hid (owns_grown (PK2.out.alloc (.cells #[.string n] 9)) hgrow (fun u hu e => by cases hu; exact n2 e))
            have B6 := Lib.hid ((BK2.out.alloc BK2.out.size (.cells #[.string n] 9)).grown hgrow (by have := HW.out; simp; omega) (fun j hj => own_base RK2.out j hj))
            clear hown' hgrow hnil hown RK2 LK2 PK2 BK2 HW QL HQY n1 n2
            go_wp2_with fail
            go_roundw
            case rel => first | exact ⟨k + 1, q + 1, by omega, by go_num, ⟨_, _, rfl⟩, Q6, R6, L6, P6, B6⟩ | ((repeat apply Exists.intro); exact ⟨⟨k + 1, q + 1, by omega, by go_num, ⟨_, _, rfl⟩, Q6, R6, L6, P6, B6⟩, rfl⟩)
            case measure => simp [intOf]; omega
        by_cases e3 : q9 = 3
        · subst e3
          rw [show pt n 3 l x y h t m c = .iface 120 (hv n 3 l x y h t m c) from rfl] at hp
          have ta := as_lamp
          have le := LE (by simp)
          obtain ⟨cm, hcm⟩ : ∃ v, lk M s = v := ⟨_, rfl⟩
          rw [hcm] at le
          have CL := Lib.hid (fun W => lineG n 3 l x y h t m c W)
          obtain ⟨r, hr9⟩ : ∃ r, ((some c : Option Nat) == cm) = r := ⟨_, rfl⟩
          rw [hr9] at le
          have HLE := Lib.hid le
          clear le LE
          go_wp2_with fail
          refine wp_region_noPanic ?_
          refine wp_region_held_drew (S := (fun w' => Ls w' w1.heap.size M ∧ Below wr.heap.size wr w')) (by kernel_rfl) ?_ (fun hH => ?_)
          · exact ⟨LK.out.drew, (Below.refl _ _).drew⟩
          refine wpAnyH_take (i := 0) (oi := { dst := some 31, op := _, type := _, pos := _, after := _, guard := _ }) (v := ?_) rfl (by kernel_rfl) (by kernel_rfl) (by kernel_rfl) (fun _ _ _ h => h) (Or.inl ⟨by rfl, ?_⟩) hH ?_
          rotate_left 1
          · intro W hSw
            (try dsimp only at hSw)
            go_simp
            (try with_reducible rfl)
          try simp only [Act.put, List.setIfInBounds_toArray, List.set_cons_zero, List.set_cons_succ]
          refine wpAnyH_take (i := 1) (oi := { dst := some 32, op := _, type := _, pos := _, after := _, guard := _ }) (v := ?_) rfl (by kernel_rfl) (by kernel_rfl) (by kernel_rfl) (fun _ _ _ h => h) (Or.inl ⟨by rfl, ?_⟩) hH ?_
          rotate_left 1
          · intro W hSw
            (try dsimp only at hSw)
            go_simp
            (try with_reducible rfl)
          try simp only [Act.put, List.setIfInBounds_toArray, List.set_cons_zero, List.set_cons_succ]
          refine wpAnyH_take (i := 2) (oi := { dst := some 33, op := _, type := _, pos := _, after := _, guard := _ }) (v := ?_) rfl (by kernel_rfl) (by kernel_rfl) (by kernel_rfl) (fun _ _ _ h => h) (Or.inl ⟨by rfl, ?_⟩) hH ?_
          rotate_left 1
          · intro W hSw
            (try dsimp only at hSw)
            go_simp
            (try with_reducible rfl)
          try simp only [Act.put, List.setIfInBounds_toArray, List.set_cons_zero, List.set_cons_succ]
          refine wpAnyH_take (i := 4) (oi := { dst := some 35, op := _, type := _, pos := _, after := _, guard := _ }) (v := ?_) rfl (by kernel_rfl) (by kernel_rfl) (by kernel_rfl) (fun _ _ _ h => h) (Or.inl ⟨by rfl, ?_⟩) hH ?_
          rotate_left 1
          · intro W hSw
            (try dsimp only at hSw)
            go_simp
            (try with_reducible rfl)
          try simp only [Act.put, List.setIfInBounds_toArray, List.set_cons_zero, List.set_cons_succ]
          refine wpAnyH_take (i := 5) (oi := { dst := some 36, op := _, type := _, pos := _, after := _, guard := _ }) (v := ?_) rfl (by kernel_rfl) (by kernel_rfl) (by kernel_rfl) (fun _ _ _ h => h) (Or.inl ⟨by rfl, ?_⟩) hH ?_
          rotate_left 1
          · intro W hSw
            (try dsimp only at hSw)
            go_simp
            (try with_reducible rfl)
          try simp only [Act.put, List.setIfInBounds_toArray, List.set_cons_zero, List.set_cons_succ]
          refine wpAnyH_take (i := 6) (oi := { dst := some 37, op := _, type := _, pos := _, after := _, guard := _ }) (v := ?_) rfl (by kernel_rfl) (by kernel_rfl) (by kernel_rfl) (fun _ _ _ h => h) (Or.inl ⟨by rfl, ?_⟩) hH ?_
          rotate_left 1
          · intro W hSw
            (try dsimp only at hSw)
            have hlk := run_look hSw.1 s
            rw [hcm] at hlk
            go_simp
            (try with_reducible rfl)
          try simp only [Act.put, List.setIfInBounds_toArray, List.set_cons_zero, List.set_cons_succ]
          refine wpAnyH_ready (rs := [3]) (by kernel_rfl) (by simp) (AllReadyH.cons rfl (fun K hK => ?_) AllReadyH.nil)
          go_simp
          rw [me_line3]; go_simp; go_at_call 111; ((with_reducible refine (CL.out _).mono ?_); rintro e r1 ⟨rfl, hb9⟩); go_wp2_with fail
          refine hK.out _ _ ?_ (fun hG => ?_)
          · exact ⟨hH.1.below hb9 hH.1.lt, Below.trans hH.2 (hb9.mono hH.2.size)⟩
          replace hH := hG
          clear hK K hG
          try simp only [Act.put, List.setIfInBounds_toArray, List.set_cons_zero, List.set_cons_succ]
          refine wpAnyH_take (i := 7) (oi := { dst := some 38, op := _, type := _, pos := _, after := _, guard := _ }) (v := ?_) rfl (by kernel_rfl) (by kernel_rfl) (by kernel_rfl) (fun _ _ _ h => h) (Or.inl ⟨by rfl, ?_⟩) hH ?_
          rotate_left 1
          · intro W hSw
            (try dsimp only at hSw)
            go_simp
            (try with_reducible rfl)
          try simp only [Act.put, List.setIfInBounds_toArray, List.set_cons_zero, List.set_cons_succ]
          refine wpAnyH_take (i := 8) (oi := { dst := some 39, op := _, type := _, pos := _, after := _, guard := _ }) (v := ?_) rfl (by kernel_rfl) (by kernel_rfl) (by kernel_rfl) (fun _ _ _ h => h) (Or.inl ⟨by rfl, ?_⟩) hH ?_
          rotate_left 1
          · intro W hSw
            (try dsimp only at hSw)
            go_simp
            (try with_reducible rfl)
          try simp only [Act.put, List.setIfInBounds_toArray, List.set_cons_zero, List.set_cons_succ]
          refine wpAnyH_done (by kernel_rfl) ?_ _
          refine NoPanic.normal ?_
          have LK2 := Lib.hid (LK.out.below hH.2 LK.out.lt)
          have PK2 := Lib.hid (owns_below PK.out hH.2)
          have RK2 := Lib.hid (owns_below RK.out hH.2)
          have BK2 := Lib.hid (BK.out.trans (Below.mono hH.2 BK.out.size))
          have hnm2 := (Below.cell hH.2 (p := ⟨b, o + k * 8, none⟩) (Nat.lt_of_lt_of_le hbl BK.out.size)).trans hnm
          clear hH hnm
          cases r
          · have HQN := Lib.hid (QN.out HLE.out)
            go_wp2_with fail
            go_roundw
            case rel => first | exact ⟨k + 1, q, by omega, by go_num, ⟨_, _, rfl⟩, by rw [HQN.out]; exact QL, by rw [HQN.out]; exact RK2, LK2, PK2, BK2⟩ | ((repeat apply Exists.intro); exact ⟨⟨k + 1, q, by omega, by go_num, ⟨_, _, rfl⟩, by rw [HQN.out]; exact QL, by rw [HQN.out]; exact RK2, LK2, PK2, BK2⟩, rfl⟩)
            case measure => simp [intOf]; omega
          · have HQY := Lib.hid (QY.out HLE.out)
            have hown := RK2.out.alloc
            have HW := Lib.hid BK2.out.size
            have hq : q ≤ 1048576 := by have := olV_len zs s (zs.take k); have := QL.out; have := List.length_take_le k zs; omega
            go_wp2_with (at_builtin; refine wpList_append_own _ rfl _ _ 37 rfl w.heap.size 9 i0 (.string ByteArray.empty) 1 16 Try.underlying37 hi hz0 hz1 hz2 rfl (by decide) _ _ _ rfl (hown _) ⟨r1.heap.size, 0, none⟩ 1 1 [.string n] rfl rfl (by intro j u hj; match j, hj with | 0, hj => simp at hj; subst hj; simp [Addr.add]) (by intro u hu; simp at hu; subst hu; rfl) (by unfold maxLen; omega) (by omega) (by have := HW.out; simp; omega) ?_; intro v' w5 hown' hgrow hnil)
            rw [strs_snoc, ← HQY.out] at hown'
            obtain ⟨g5, c5, rfl⟩ := own_mk hown'
            have R6 := Lib.hid hown'
            have Q6 := Lib.hid (show (olV zs s (zs.take (k + 1))).length = q + 1 by rw [HQY.out, List.length_append, QL.out]; rfl)
            have n1 := ne_map RK2.out LK2.out
            have n2 := ne_parts RK2.out PK2.out
            have L6 := Lib.hid ((LK2.out.alloc (.cells #[.string n] 9)).grown hgrow (fun e => n1 e.symm))
            have P6 := Lib.hid (owns_grown (PK2.out.alloc (.cells #[.string n] 9)) hgrow (fun u hu e => by cases hu; exact n2 e))
            have B6 := Lib.hid ((BK2.out.alloc BK2.out.size (.cells #[.string n] 9)).grown hgrow (by have := HW.out; simp; omega) (fun j hj => own_base RK2.out j hj))
            clear hown' hgrow hnil hown RK2 LK2 PK2 BK2 HW QL HQY n1 n2
            go_wp2_with fail
            go_roundw
            case rel => first | exact ⟨k + 1, q + 1, by omega, by go_num, ⟨_, _, rfl⟩, Q6, R6, L6, P6, B6⟩ | ((repeat apply Exists.intro); exact ⟨⟨k + 1, q + 1, by omega, by go_num, ⟨_, _, rfl⟩, Q6, R6, L6, P6, B6⟩, rfl⟩)
            case measure => simp [intOf]; omega
        have HQN := Lib.hid (QN.out (show tB zs s ⟨n, q9, l, x, y, h, t, m⟩ = false by
          rcases kinds HH.out HZ.out with ⟨_, hl⟩ | ⟨hk9, _⟩
          · unfold tB
            have hl' : l.toList = [] := by simpa using hl
            cases hs : (s.toList == [])
            · have : sb l s = false := by
                unfold sb; rw [hl']
                cases e : s.toList with
                | nil => rw [e] at hs; cases hs
                | cons a r => rfl
              simp [this]
            · simp
          · exact absurd hk9 (by simp only []; omega)))
        rw [show pt n q9 l x y h t m c = .nilIface by simp [pt, e1, e2, e3]] at hp
        have ta := as_nil
        clear e1 e2 e3
        go_wp2_with fail
        refine wp_region_noPanic ?_
        refine wp_region_held_drew (S := (fun w' => Below wr.heap.size wr w')) (by kernel_rfl) ?_ (fun hH => ?_)
        · exact (Below.refl _ _).drew
        refine wpAnyH_take (i := 0) (oi := { dst := some 31, op := _, type := _, pos := _, after := _, guard := _ }) (v := ?_) rfl (by kernel_rfl) (by kernel_rfl) (by kernel_rfl) (fun _ _ _ h => h) (Or.inl ⟨by rfl, ?_⟩) hH ?_
        rotate_left 1
        · intro W hSw
          (try dsimp only at hSw)
          go_simp
          (try with_reducible rfl)
        try simp only [Act.put, List.setIfInBounds_toArray, List.set_cons_zero, List.set_cons_succ]
        refine wpAnyH_take (i := 1) (oi := { dst := some 32, op := _, type := _, pos := _, after := _, guard := _ }) (v := ?_) rfl (by kernel_rfl) (by kernel_rfl) (by kernel_rfl) (fun _ _ _ h => h) (Or.inl ⟨by rfl, ?_⟩) hH ?_
        rotate_left 1
        · intro W hSw
          (try dsimp only at hSw)
          go_simp
          (try with_reducible rfl)
        try simp only [Act.put, List.setIfInBounds_toArray, List.set_cons_zero, List.set_cons_succ]
        refine wpAnyH_take (i := 2) (oi := { dst := some 33, op := _, type := _, pos := _, after := _, guard := _ }) (v := undef) rfl (by kernel_rfl) (by kernel_rfl) (by kernel_rfl) (fun _ _ _ h => h) (Or.inr ⟨by simp [Region.wanted, yielded, hu], rfl⟩) hH ?_
        try simp only [Act.put, List.setIfInBounds_toArray, List.set_cons_zero, List.set_cons_succ]
        refine wpAnyH_take (i := 3) (oi := { dst := some 34, op := _, type := _, pos := _, after := _, guard := _ }) (v := undef) rfl (by kernel_rfl) (by kernel_rfl) (by kernel_rfl) (fun _ _ _ h => h) (Or.inr ⟨by simp [Region.wanted, yielded, hu], rfl⟩) hH ?_
        try simp only [Act.put, List.setIfInBounds_toArray, List.set_cons_zero, List.set_cons_succ]
        refine wpAnyH_take (i := 4) (oi := { dst := some 35, op := _, type := _, pos := _, after := _, guard := _ }) (v := undef) rfl (by kernel_rfl) (by kernel_rfl) (by kernel_rfl) (fun _ _ _ h => h) (Or.inr ⟨by simp [Region.wanted, yielded, hu], rfl⟩) hH ?_
        try simp only [Act.put, List.setIfInBounds_toArray, List.set_cons_zero, List.set_cons_succ]
        refine wpAnyH_take (i := 5) (oi := { dst := some 36, op := _, type := _, pos := _, after := _, guard := _ }) (v := undef) rfl (by kernel_rfl) (by kernel_rfl) (by kernel_rfl) (fun _ _ _ h => h) (Or.inr ⟨by simp [Region.wanted, yielded, hu], rfl⟩) hH ?_
        try simp only [Act.put, List.setIfInBounds_toArray, List.set_cons_zero, List.set_cons_succ]
        refine wpAnyH_take (i := 6) (oi := { dst := some 37, op := _, type := _, pos := _, after := _, guard := _ }) (v := undef) rfl (by kernel_rfl) (by kernel_rfl) (by kernel_rfl) (fun _ _ _ h => h) (Or.inr ⟨by simp [Region.wanted, yielded, hu], rfl⟩) hH ?_
        try simp only [Act.put, List.setIfInBounds_toArray, List.set_cons_zero, List.set_cons_succ]
        refine wpAnyH_take (i := 7) (oi := { dst := some 38, op := _, type := _, pos := _, after := _, guard := _ }) (v := undef) rfl (by kernel_rfl) (by kernel_rfl) (by kernel_rfl) (fun _ _ _ h => h) (Or.inr ⟨by simp [Region.wanted, yielded, hu], rfl⟩) hH ?_
        try simp only [Act.put, List.setIfInBounds_toArray, List.set_cons_zero, List.set_cons_succ]
        refine wpAnyH_take (i := 8) (oi := { dst := some 39, op := _, type := _, pos := _, after := _, guard := _ }) (v := ?_) rfl (by kernel_rfl) (by kernel_rfl) (by kernel_rfl) (fun _ _ _ h => h) (Or.inl ⟨by rfl, ?_⟩) hH ?_
        rotate_left 1
        · intro W hSw
          (try dsimp only at hSw)
          go_simp
          (try with_reducible rfl)
        try simp only [Act.put, List.setIfInBounds_toArray, List.set_cons_zero, List.set_cons_succ]
        refine wpAnyH_done (by kernel_rfl) ?_ _
        refine NoPanic.normal ?_
        have LK2 := Lib.hid (LK.out.below hH LK.out.lt)
        have PK2 := Lib.hid (owns_below PK.out hH)
        have RK2 := Lib.hid (owns_below RK.out hH)
        have BK2 := Lib.hid (BK.out.trans (Below.mono hH BK.out.size))
        have hnm2 := (Below.cell hH (p := ⟨b, o + k * 8, none⟩) (Nat.lt_of_lt_of_le hbl BK.out.size)).trans hnm
        clear hH hnm
        go_wp2_with fail
        go_roundw
        case rel => first | exact ⟨k + 1, q, by omega, by go_num, ⟨_, _, rfl⟩, by rw [HQN.out]; exact QL, by rw [HQN.out]; exact RK2, LK2, PK2, BK2⟩ | ((repeat apply Exists.intro); exact ⟨⟨k + 1, q, by omega, by go_num, ⟨_, _, rfl⟩, by rw [HQN.out]; exact QL, by rw [HQN.out]; exact RK2, LK2, PK2, BK2⟩, rfl⟩)
        case measure => simp [intOf]; omega
      · obtain rfl : k = n0 := by omega
        have ht : zs.take k = zs := List.take_of_length_le (by rw [HN.out]; exact Nat.le_refl _)
        have F := RK.out
        have Q := QL.out
        rw [ht] at F Q
        have F9 := Lib.hid F
        have Q9 := Lib.hid Q
        clear F Q ht
        go_wp2_with fail
        go_ret
        exact ⟨gb, gc, by rw [Q9.out]; rfl, by rw [Q9.out]; exact F9.out, BK.out⟩
  · have hf : rig zs = false := by simpa using hrig
    have HV := Lib.hid (olV_none s hf zs)
    rw [hf] at CR
    rw [HV.out]
    clear hf hrig
    go_enter Try.func12, Try.ntmps12
    go_wp2_with fail
    refine CR.out.mono ?_
    rintro e w1 ⟨rfl, hb1⟩
    have B1 := Lib.hid (B0.out.trans (hb1.mono B0.out.size))
    have RA := Lib.hid (owns_below R0.out hb1)
    clear hb1 CR R0
    go_wp2_with fail
    go_returns
    exact ⟨_, _, rfl, RA.out, B1.out⟩

end Go.Proofs.Ytgcheplneolonab.Ol
