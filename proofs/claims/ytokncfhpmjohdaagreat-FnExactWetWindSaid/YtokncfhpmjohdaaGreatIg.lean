/- Whether a list of devices is a rig, of the program and of the model. -/
import Derived.Test.YtokncfhpmjohdaaGreatM6
import Derived.Deep.RegionHeld3
set_option linter.unusedVariables false
set_option linter.unusedSimpArgs false
namespace Go.Proofs.YtokncfhpmjohdaaGreat.Ig
open Go.RowKit Go.ChangeShapes Go.WideShapes Go.WideElems Go.Deep Go.Proofs.YtokncfhpmjohdaaGreat.Mem Go.Proofs.YtokncfhpmjohdaaGreat.Rw Go.Proofs.YtokncfhpmjohdaaGreat.Pw Go.Proofs.YtokncfhpmjohdaaGreat.P2 Go.Proofs.YtokncfhpmjohdaaGreat.Dd Go.Proofs.YtokncfhpmjohdaaGreat.Dv Go.Proofs.YtokncfhpmjohdaaGreat.Dl Go.Proofs.YtokncfhpmjohdaaGreat.Ds Go.Proofs.YtokncfhpmjohdaaGreat.Fd Go.Proofs.YtokncfhpmjohdaaGreat.Ch Go.Proofs.YtokncfhpmjohdaaGreat.Hn Go.Proofs.YtokncfhpmjohdaaGreat.Po
set_option linter.unusedVariables false
set_option linter.unusedSimpArgs false
open Go.Proofs.YtokncfhpmjohdaaGreat.Ho Go.Proofs.YtokncfhpmjohdaaGreat.Pa Go.Proofs.YtokncfhpmjohdaaGreat.Di

/-- Whether a name is before another one. -/
def lt (a b : ByteArray) : Bool := Op.bytesLess a.toList b.toList
noncomputable def dB (d : D) : Bool := devB d.nm d.kd d.ln d.x d.y d.hd d.tl d.ms
/-- Whether the device at a place is behind the one before it. -/
def ordA (zs : List D) : Nat → Bool
  | 0 => true
  | p + 1 => match zs[p]?, zs[p + 1]? with | some a, some d => lt a.nm d.nm | _, _ => true
theorem ordA_zero (zs : List D) : ordA zs 0 = true := rfl
theorem ordA_succ {zs : List D} {p : Nat} {a d : D} (ha : zs[p]? = some a) (hd : zs[p + 1]? = some d) : ordA zs (p + 1) = lt a.nm d.nm := by
  show (match zs[p]?, zs[p + 1]? with | some a, some d => lt a.nm d.nm | _, _ => true) = _
  rw [ha, hd]
def Rig (zs : List D) : Prop := zs.length ≤ 8 ∧ ∀ (k : Nat) (d : D), zs[k]? = some d → dB d = true ∧ ordA zs k = true ∧ hgV zs d.kd d.ln = true
/-- Whether these devices are a rig. -/
noncomputable def rig (zs : List D) : Bool := @decide (Rig zs) (Classical.propDecidable _)
theorem rig_yes {zs : List D} (h : Rig zs) : rig zs = true := by unfold rig; exact @decide_eq_true _ (Classical.propDecidable _) h
theorem rig_no {zs : List D} (h : ¬ Rig zs) : rig zs = false := by unfold rig; exact @decide_eq_false _ (Classical.propDecidable _) h
theorem rig_of {zs : List D} (h : rig zs = true) : Rig zs := by
  by_cases c : Rig zs
  · exact c
  · rw [rig_no c] at h; cases h
/-- Whether each of these hangs as it should. -/
def Held (zs : List D) : Prop := ∀ (k : Nat) (d : D), zs[k]? = some d → hgV zs d.kd d.ln = true
noncomputable def heldB (zs : List D) : Bool := @decide (Held zs) (Classical.propDecidable _)
theorem held_yes {zs : List D} (h : Held zs) : heldB zs = true := by unfold heldB; exact @decide_eq_true _ (Classical.propDecidable _) h
theorem held_no {zs : List D} (h : ¬ Held zs) : heldB zs = false := by unfold heldB; exact @decide_eq_false _ (Classical.propDecidable _) h

theorem run_geq (a b : ByteArray) (w : World) : (binOp .geq 9 (.string a) (.string b)).run Tryz.prog w = .ok (.bool (!lt a b)) w := by simp [binOp, Op.stringOp, lt]
theorem run_gtr (a b : ByteArray) (w : World) : (binOp .gtr 9 (.string a) (.string b)).run Tryz.prog w = .ok (.bool (!(lt a b || a.toList == b.toList))) w := by simp [binOp, Op.stringOp, lt]

/-- How two names compare. -/
def cn (a b : ByteArray) : Int := if lt a b then -1 else if sb a b then 0 else 1
theorem isNaN (a : ByteArray) (w : World) : Calls Tryz.prog 192 #[.string a] w fun e w' => e = .returned (.bool false) ∧ w = w' := by
  have h : (a.toList == a.toList) = true := by simp
  go_enter Tryz.func192, Tryz.ntmps192
  go_wp2
  go_returns
  exact ⟨rfl, rfl⟩
theorem compareS (a b : ByteArray) (w : World) : Calls Tryz.prog 181 #[.string a, .string b] w fun e w' => e = .returned (.int .i64 (cn a b)) ∧ w = w' := by
  have hg := run_gtr a b
  unfold cn
  cases h1 : lt a b
  · cases h2 : sb a b
    all_goals
      have s1 : Op.bytesLess a.toList b.toList = false := h1
      have s2 : (a.toList == b.toList) = _ := h2
      rw [h1, s2] at hg
      clear h1 h2
      go_enter Tryz.func181, Tryz.ntmps181
      go_wp2_with (go_at_call 192; ((with_reducible refine (isNaN _ _).mono ?_); rintro e w' ⟨rfl, rfl⟩))
      go_returns
      exact ⟨rfl, rfl⟩
  · have s1 : Op.bytesLess a.toList b.toList = true := h1
    clear h1 hg
    go_enter Tryz.func181, Tryz.ntmps181
    go_wp2_with (go_at_call 192; ((with_reducible refine (isNaN _ _).mono ?_); rintro e w' ⟨rfl, rfl⟩))
    go_returns
    exact ⟨rfl, rfl⟩
theorem compareNames (n n' : ByteArray) (k : Int) (l : ByteArray) (x y h t m : Int) (k' : Int) (l' : ByteArray) (x' y' h' t' m' : Int) (w : World) :
    Calls Tryz.prog 154 #[va n k l x y h t m, va n' k' l' x' y' h' t' m'] w fun e w' => e = .returned (.int .i64 (cn n n')) ∧ Below w.heap.size w w' := by
  go_enter Tryz.func154, Tryz.ntmps154
  go_wp2_with fail
  refine (compareS _ _ _).mono ?_
  rintro e w' ⟨rfl, rfl⟩
  go_wp2_with fail
  go_returns
  exact ⟨rfl, by go_grown⟩

theorem as_pump (v : Value) (xT : TypeId) (w : World) : (Instr.typeAssert (.iface 198 v) xT 211 true).run Tryz.prog w = .ok (.tuple #[.nilIface, .bool false]) w := run_typeAssert_lacksB Tryz.underlying211 (by kernel_rfl) (by kernel_rfl) v xT w
theorem as_nozzle (v : Value) (xT : TypeId) (w : World) : (Instr.typeAssert (.iface 204 v) xT 211 true).run Tryz.prog w = .ok (.tuple #[.iface 204 v, .bool true]) w := run_typeAssert_hasB Tryz.underlying211 (by kernel_rfl) v xT w
theorem as_lamp (v : Value) (xT : TypeId) (w : World) : (Instr.typeAssert (.iface 205 v) xT 211 true).run Tryz.prog w = .ok (.tuple #[.iface 205 v, .bool true]) w := run_typeAssert_hasB Tryz.underlying211 (by kernel_rfl) v xT w
theorem as_nil (xT : TypeId) (w : World) : (Instr.typeAssert .nilIface xT 211 true).run Tryz.prog w = .ok (.tuple #[.nilIface, .bool false]) w := by kernel_rfl

theorem me2 (f : Nat) (n : ByteArray) (k : Int) (l : ByteArray) (x y h t m : Int) (c : Nat) (w : World) : (method (f + 1) 204 (hv n k l x y h t m c) "loop.example/g03017/impl.holderKind").run Tryz.prog w = .ok (236, hv n k l x y h t m c) w := by kernel_rfl
theorem me3 (f : Nat) (n : ByteArray) (k : Int) (l : ByteArray) (x y h t m : Int) (c : Nat) (w : World) : (method (f + 1) 205 (hv n k l x y h t m c) "loop.example/g03017/impl.holderKind").run Tryz.prog w = .ok (243, hv n k l x y h t m c) w := by kernel_rfl
theorem holder2 (n : ByteArray) (k : Int) (l : ByteArray) (x y h t m : Int) (c : Nat) (w : World) : Calls Tryz.prog 236 #[hv n k l x y h t m c] w fun e w' => e = .returned (.int .i64 1) ∧ Below w.heap.size w w' := by
  go_enter Tryz.func236, Tryz.ntmps236
  go_wp2_with fail
  go_returns
  exact ⟨rfl, by first | go_grown | exact Below.refl _ _⟩
theorem holder3 (n : ByteArray) (k : Int) (l : ByteArray) (x y h t m : Int) (c : Nat) (w : World) : Calls Tryz.prog 243 #[hv n k l x y h t m c] w fun e w' => e = .returned (.int .i64 2) ∧ Below w.heap.size w w' := by
  go_enter Tryz.func243, Tryz.ntmps243
  go_wp2_with fail
  go_returns
  exact ⟨rfl, by first | go_grown | exact Below.refl _ _⟩

set_option maxHeartbeats 8000000 in
set_option maxRecDepth 100000 in
theorem areHeld (A : Option Addr) (n0 c9 : Nat) (zs : List D) (w : World) (hn : zs.length = n0) (hb : n0 ≤ 1048576) (hr : Rd w w.heap.size A (dls zs)) :
    Calls Tryz.prog 155 #[.slice A n0 c9] w fun e w' => e = .returned (.bool (heldB zs)) ∧ Below w.heap.size w w' := by
  have hu : undef = Value.tuple #[] := rfl
  have hmm := @run_makeMap Tryz.prog
  have CP := Lib.hid (partsOf A n0 c9 w.heap.size zs [] w.heap.size (w.alloc (.map #[] 0)) hn hb (by simp) (hr.below (by go_grown)) (by
    rcases hr with h | ⟨b', o', e, hb', _⟩
    · exact Or.inr h
    · refine Or.inl ?_; rw [e]; simp; omega) (Ls.made w) (Gd.nil _))
  have HR := Lib.hid hr
  have HN := Lib.hid hn
  clear hr hn
  go_enter Tryz.func155, Tryz.ntmps155
  go_wp2_with fail
  refine CP.out.mono ?_
  rintro e w2 ⟨g, M, rfl, HP⟩
  have HP := Lib.hid HP
  have B0 := Lib.hid (show Below w.heap.size w w2 from Below.grown (by go_grown) HP.out.grown (by simp) (fun k hk => by cases hk; exact Nat.le_refl _))
  clear CP
  go_wp2_with fail
  go_loopw [12] (fun i wr => ∃ k : Nat, k ≤ n0 ∧ i = .int .i64 k ∧ Hid (∀ (j : Nat) (d : D), j < k → zs[j]? = some d → hgV zs d.kd d.ln = true) ∧ Hid (Below w2.heap.size w2 wr)) (fun i _ => n0 - (intOf i).toNat)
  case atStart => exact ⟨0, Nat.zero_le _, rfl, Lib.hid (fun j d h => by omega), Lib.hid (Below.refl _ _)⟩
  case round =>
    obtain ⟨k, hk, rfl, AK, BK⟩ := hrel
    clear hmm
    by_cases hlt : k < n0
    · obtain ⟨z, hz⟩ : ∃ z, zs[k]? = some z := ⟨_, List.getElem?_eq_getElem (by rw [HN.out]; exact hlt)⟩
      have HZ := Lib.hid hz
      have BW := Lib.hid (B0.out.trans (BK.out.mono B0.out.size))
      have RW := Lib.hid (HR.out.below BW.out)
      have hp : wr.cell? ⟨g, k, none⟩ = some (ptM M z) := by
        have := HP.out.row.cellAt k (by show k < n0 * 1; omega)
        rw [List.getElem?_map, hz, Option.map_some] at this
        exact cell_below BK.out this
      obtain ⟨n, q, l, x, y, h, t, m⟩ := z
      unfold ptM at hp
      simp only [] at hp
      generalize (lk M l).getD 0 = c at hp
      by_cases q1 : q = 1
      · subst q1
        rw [show pt n 1 l x y h t m c = .iface 198 (va n 1 l x y h t m) from rfl] at hp
        have ta := as_pump
        have BN := BK
        have HH := Lib.hid (hgV_o (k := 1) (by decide) (by decide) zs l)
        clear hz
        go_wp2_with fail
        go_roundw
        case rel => exact ⟨k + 1, by omega, by go_num, Lib.hid (fun j d hj hd => by
          by_cases e : j = k
          · subst e; rw [HZ.out] at hd; cases hd; exact HH.out
          · exact AK.out j d (by omega) hd), BN⟩
        case measure => simp [intOf]; omega
      by_cases q2 : q = 2
      · subst q2
        rw [show pt n 2 l x y h t m c = .iface 204 (hv n 2 l x y h t m c) from rfl] at hp
        have ta := as_nozzle
        obtain ⟨b, o, eA, hbl, hcell⟩ := RW.out.get (k := k * 8) (by rw [dls_len, HN.out]; omega)
        have z2 := (dls_get hz).2.2.1
        have cl2 : wr.cell? ⟨b, o + k * 8 + 2, none⟩ = some (.string l) := by rw [Nat.add_assoc]; exact hcell _ _ z2
        have HC := Lib.hid hcell
        have CF := Lib.hid (findI A n0 c9 zs l wr HN.out hb (RW.out.more BW.out.size))
        subst eA
        clear z2 hcell hz
        go_wp2_with fail
        refine CF.out.mono ?_
        rintro e w3 ⟨rfl, hb3⟩
        have B3 := Lib.hid hb3
        have BN := Lib.hid (BK.out.trans (hb3.mono BK.out.size))
        clear hb3 CF cl2 hp ta
        rcases fd_cases zs l with hf | ⟨j, hf, hj, d, hd, _⟩
        · rw [hf]
          have HH := Lib.hid (show heldB zs = false from held_no fun H => by
            have := H k _ HZ.out
            rw [show hgV zs 2 l = kAt zs (fd zs l) 1 from rfl, hf, kAt_no] at this
            cases this)
          clear hf
          go_wp2_with fail
          refine wp_region_noPanic ?_
          refine wp_region_held_drew (S := (fun w' => Below w3.heap.size w3 w')) (by kernel_rfl) ?_ (fun hH => ?_)
          · exact (Below.refl _ _).drew
          refine wpAnyH_take (i := 0) (oi := { dst := some 30, op := _, type := _, pos := _, after := _, guard := _ }) (v := ?_) rfl (by kernel_rfl) (by kernel_rfl) (by kernel_rfl) (fun _ _ _ h => h) (Or.inl ⟨by rfl, ?_⟩) hH ?_
          rotate_left 1
          · intro W hSw
            (try dsimp only at hSw)
            go_simp
            (try with_reducible rfl)
          try simp only [Act.put, List.setIfInBounds_toArray, List.set_cons_zero, List.set_cons_succ]
          refine wpAnyH_take (i := 1) (oi := { dst := some 31, op := _, type := _, pos := _, after := _, guard := _ }) (v := ?_) rfl (by kernel_rfl) (by kernel_rfl) (by kernel_rfl) (fun _ _ _ h => h) (Or.inl ⟨by rfl, ?_⟩) hH ?_
          rotate_left 1
          · intro W hSw
            (try dsimp only at hSw)
            go_simp
            (try with_reducible rfl)
          try simp only [Act.put, List.setIfInBounds_toArray, List.set_cons_zero, List.set_cons_succ]
          refine wpAnyH_take (i := 2) (oi := { dst := some 32, op := _, type := _, pos := _, after := _, guard := _ }) (v := ?_) rfl (by kernel_rfl) (by kernel_rfl) (by kernel_rfl) (fun _ _ _ h => h) (Or.inl ⟨by rfl, ?_⟩) hH ?_
          rotate_left 1
          · intro W hSw
            (try dsimp only at hSw)
            go_simp
            (try with_reducible rfl)
          try simp only [Act.put, List.setIfInBounds_toArray, List.set_cons_zero, List.set_cons_succ]
          refine wpAnyH_take (i := 3) (oi := { dst := some 33, op := _, type := _, pos := _, after := _, guard := _ }) (v := undef) rfl (by kernel_rfl) (by kernel_rfl) (by kernel_rfl) (fun _ _ _ h => h) (Or.inr ⟨by simp [Region.wanted, yielded, hu], rfl⟩) hH ?_
          try simp only [Act.put, List.setIfInBounds_toArray, List.set_cons_zero, List.set_cons_succ]
          refine wpAnyH_take (i := 4) (oi := { dst := some 34, op := _, type := _, pos := _, after := _, guard := _ }) (v := undef) rfl (by kernel_rfl) (by kernel_rfl) (by kernel_rfl) (fun _ _ _ h => h) (Or.inr ⟨by simp [Region.wanted, yielded, hu], rfl⟩) hH ?_
          try simp only [Act.put, List.setIfInBounds_toArray, List.set_cons_zero, List.set_cons_succ]
          refine wpAnyH_take (i := 5) (oi := { dst := some 35, op := _, type := _, pos := _, after := _, guard := _ }) (v := undef) rfl (by kernel_rfl) (by kernel_rfl) (by kernel_rfl) (fun _ _ _ h => h) (Or.inr ⟨by simp [Region.wanted, yielded, hu], rfl⟩) hH ?_
          try simp only [Act.put, List.setIfInBounds_toArray, List.set_cons_zero, List.set_cons_succ]
          refine wpAnyH_take (i := 6) (oi := { dst := some 36, op := _, type := _, pos := _, after := _, guard := _ }) (v := undef) rfl (by kernel_rfl) (by kernel_rfl) (by kernel_rfl) (fun _ _ _ h => h) (Or.inr ⟨by simp [Region.wanted, yielded, hu], rfl⟩) hH ?_
          try simp only [Act.put, List.setIfInBounds_toArray, List.set_cons_zero, List.set_cons_succ]
          refine wpAnyH_take (i := 7) (oi := { dst := some 37, op := _, type := _, pos := _, after := _, guard := _ }) (v := undef) rfl (by kernel_rfl) (by kernel_rfl) (by kernel_rfl) (fun _ _ _ h => h) (Or.inr ⟨by simp [Region.wanted, yielded, hu], rfl⟩) hH ?_
          try simp only [Act.put, List.setIfInBounds_toArray, List.set_cons_zero, List.set_cons_succ]
          refine wpAnyH_take (i := 8) (oi := { dst := some 38, op := _, type := _, pos := _, after := _, guard := _ }) (v := undef) rfl (by kernel_rfl) (by kernel_rfl) (by kernel_rfl) (fun _ _ _ h => h) (Or.inr ⟨by simp [Region.wanted, yielded, hu], rfl⟩) hH ?_
          try simp only [Act.put, List.setIfInBounds_toArray, List.set_cons_zero, List.set_cons_succ]
          refine wpAnyH_take (i := 9) (oi := { dst := some 39, op := _, type := _, pos := _, after := _, guard := _ }) (v := undef) rfl (by kernel_rfl) (by kernel_rfl) (by kernel_rfl) (fun _ _ _ h => h) (Or.inr ⟨by simp [Region.wanted, yielded, hu], rfl⟩) hH ?_
          try simp only [Act.put, List.setIfInBounds_toArray, List.set_cons_zero, List.set_cons_succ]
          refine wpAnyH_take (i := 10) (oi := { dst := some 40, op := _, type := _, pos := _, after := _, guard := _ }) (v := undef) rfl (by kernel_rfl) (by kernel_rfl) (by kernel_rfl) (fun _ _ _ h => h) (Or.inr ⟨by simp [Region.wanted, yielded, hu], rfl⟩) hH ?_
          try simp only [Act.put, List.setIfInBounds_toArray, List.set_cons_zero, List.set_cons_succ]
          refine wpAnyH_take (i := 11) (oi := { dst := some 41, op := _, type := _, pos := _, after := _, guard := _ }) (v := ?_) rfl (by kernel_rfl) (by kernel_rfl) (by kernel_rfl) (fun _ _ _ h => h) (Or.inl ⟨by rfl, ?_⟩) hH ?_
          rotate_left 1
          · intro W hSw
            (try dsimp only at hSw)
            go_simp
            (try with_reducible rfl)
          try simp only [Act.put, List.setIfInBounds_toArray, List.set_cons_zero, List.set_cons_succ]
          refine wpAnyH_done (by kernel_rfl) ?_ _
          refine NoPanic.normal ?_
          have B4 := Lib.hid (BW.out.trans ((B3.out.trans (hH.mono B3.out.size)).mono BW.out.size))
          clear hH
          go_wp2_with fail
          go_ret
          exact ⟨by rw [HH.out]; rfl, B4.out⟩
        · rw [hf]
          have HF := Lib.hid hf
          have HD := Lib.hid hd
          have hj0 : j < n0 := by rw [← HN.out]; exact hj
          have ck : w3.cell? ⟨b, o + j * 8 + 1, none⟩ = some (.int .i64 d.kd) := by
            rw [Nat.add_assoc]; exact (B3.out.cell (p := ⟨b, o + (j * 8 + 1), none⟩) (Nat.lt_of_lt_of_le hbl BW.out.size)).trans (HC.out _ _ (dls_get hd).2.1)
          have HQ := Lib.hid (show hgV zs 2 l = (d.kd == 1) by rw [show hgV zs 2 l = kAt zs (fd zs l) 1 from rfl, hf, kAt_yes hd])
          obtain ⟨u, hu2⟩ : ∃ u, d.kd = u := ⟨_, rfl⟩
          rw [hu2] at ck HQ
          obtain ⟨r, hr⟩ : ∃ r, (u == 1) = r := ⟨_, rfl⟩
          rw [hr] at HQ
          have hq : decide (u = 1) = r := by rw [← hr]; by_cases e : u = 1 <;> simp [e]
          have hneg : decide ((j : Int) < 0) = false := decide_eq_false (by omega)
          have hneg2 : ¬ (j : Int) < 0 := by omega
          have HK := Lib.hid (fun W => holder2 n 2 l x y h t m c W)
          clear hf hd hj hu2
          go_wp2_with fail
          refine wp_region_noPanic ?_
          refine wp_region_held_drew (S := (fun w' => w'.cell? ⟨b, o + j * 8 + 1, none⟩ = some (.int .i64 u) ∧ Below w3.heap.size w3 w')) (by kernel_rfl) ?_ (fun hH => ?_)
          · exact ⟨ck, (Below.refl _ _).drew⟩
          refine wpAnyH_take (i := 0) (oi := { dst := some 30, op := _, type := _, pos := _, after := _, guard := _ }) (v := ?_) rfl (by kernel_rfl) (by kernel_rfl) (by kernel_rfl) (fun _ _ _ h => h) (Or.inl ⟨by rfl, ?_⟩) hH ?_
          rotate_left 1
          · intro W hSw
            (try dsimp only at hSw)
            go_simp
            (try with_reducible rfl)
          try simp only [Act.put, List.setIfInBounds_toArray, List.set_cons_zero, List.set_cons_succ]
          refine wpAnyH_take (i := 1) (oi := { dst := some 31, op := _, type := _, pos := _, after := _, guard := _ }) (v := ?_) rfl (by kernel_rfl) (by kernel_rfl) (by kernel_rfl) (fun _ _ _ h => h) (Or.inl ⟨by rfl, ?_⟩) hH ?_
          rotate_left 1
          · intro W hSw
            (try dsimp only at hSw)
            go_simp
            (try with_reducible rfl)
          try simp only [Act.put, List.setIfInBounds_toArray, List.set_cons_zero, List.set_cons_succ]
          refine wpAnyH_take (i := 2) (oi := { dst := some 32, op := _, type := _, pos := _, after := _, guard := _ }) (v := ?_) rfl (by kernel_rfl) (by kernel_rfl) (by kernel_rfl) (fun _ _ _ h => h) (Or.inl ⟨by rfl, ?_⟩) hH ?_
          rotate_left 1
          · intro W hSw
            (try dsimp only at hSw)
            go_simp
            (try with_reducible rfl)
          try simp only [Act.put, List.setIfInBounds_toArray, List.set_cons_zero, List.set_cons_succ]
          refine wpAnyH_take (i := 3) (oi := { dst := some 33, op := _, type := _, pos := _, after := _, guard := _ }) (v := ?_) rfl (by kernel_rfl) (by kernel_rfl) (by kernel_rfl) (fun _ _ _ h => h) (Or.inl ⟨by rfl, ?_⟩) hH ?_
          rotate_left 1
          · intro W hSw
            (try dsimp only at hSw)
            go_simp
            (try with_reducible rfl)
          try simp only [Act.put, List.setIfInBounds_toArray, List.set_cons_zero, List.set_cons_succ]
          refine wpAnyH_take (i := 4) (oi := { dst := some 34, op := _, type := _, pos := _, after := _, guard := _ }) (v := ?_) rfl (by kernel_rfl) (by kernel_rfl) (by kernel_rfl) (fun _ _ _ h => h) (Or.inl ⟨by rfl, ?_⟩) hH ?_
          rotate_left 1
          · intro W hSw
            (try dsimp only at hSw)
            go_simp
            (try with_reducible rfl)
          try simp only [Act.put, List.setIfInBounds_toArray, List.set_cons_zero, List.set_cons_succ]
          refine wpAnyH_take (i := 5) (oi := { dst := some 35, op := _, type := _, pos := _, after := _, guard := _ }) (v := ?_) rfl (by kernel_rfl) (by kernel_rfl) (by kernel_rfl) (fun _ _ _ h => h) (Or.inl ⟨by rfl, ?_⟩) hH ?_
          rotate_left 1
          · intro W hSw
            (try dsimp only at hSw)
            go_simp
            (try with_reducible rfl)
          try simp only [Act.put, List.setIfInBounds_toArray, List.set_cons_zero, List.set_cons_succ]
          refine wpAnyH_take (i := 6) (oi := { dst := some 36, op := _, type := _, pos := _, after := _, guard := _ }) (v := ?_) rfl (by kernel_rfl) (by kernel_rfl) (by kernel_rfl) (fun _ _ _ h => h) (Or.inl ⟨by rfl, ?_⟩) hH ?_
          rotate_left 1
          · intro W hSw
            (try dsimp only at hSw)
            go_simp
            (try with_reducible rfl)
          try simp only [Act.put, List.setIfInBounds_toArray, List.set_cons_zero, List.set_cons_succ]
          refine wpAnyH_take (i := 7) (oi := { dst := some 37, op := _, type := _, pos := _, after := _, guard := _ }) (v := ?_) rfl (by kernel_rfl) (by kernel_rfl) (by kernel_rfl) (fun _ _ _ h => h) (Or.inl ⟨by rfl, ?_⟩) hH ?_
          rotate_left 1
          · intro W hSw
            (try dsimp only at hSw)
            go_simp
            (try with_reducible rfl)
          try simp only [Act.put, List.setIfInBounds_toArray, List.set_cons_zero, List.set_cons_succ]
          refine wpAnyH_take (i := 8) (oi := { dst := some 38, op := _, type := _, pos := _, after := _, guard := _ }) (v := ?_) rfl (by kernel_rfl) (by kernel_rfl) (by kernel_rfl) (fun _ _ _ h => h) (Or.inl ⟨by rfl, ?_⟩) hH ?_
          rotate_left 1
          · intro W hSw
            (try dsimp only at hSw)
            go_simp
            (try with_reducible rfl)
          try simp only [Act.put, List.setIfInBounds_toArray, List.set_cons_zero, List.set_cons_succ]
          refine wpAnyH_ready (rs := [9]) (by kernel_rfl) (by simp) (AllReadyH.cons rfl (fun K hK => ?_) AllReadyH.nil)
          go_simp
          rw [me2]; go_simp; go_at_call 236; ((with_reducible refine (HK.out _).mono ?_); rintro e r1 ⟨rfl, hb9⟩); go_wp2_with fail
          refine hK.out _ _ ?_ (fun hG => ?_)
          · exact ⟨cell_below hb9 hH.1, Below.trans hH.2 (hb9.mono hH.2.size)⟩
          replace hH := hG
          clear hK K hG
          try simp only [Act.put, List.setIfInBounds_toArray, List.set_cons_zero, List.set_cons_succ]
          refine wpAnyH_take (i := 10) (oi := { dst := some 40, op := _, type := _, pos := _, after := _, guard := _ }) (v := ?_) rfl (by kernel_rfl) (by kernel_rfl) (by kernel_rfl) (fun _ _ _ h => h) (Or.inl ⟨by rfl, ?_⟩) hH ?_
          rotate_left 1
          · intro W hSw
            (try dsimp only at hSw)
            go_simp
            (try with_reducible rfl)
          try simp only [Act.put, List.setIfInBounds_toArray, List.set_cons_zero, List.set_cons_succ]
          refine wpAnyH_take (i := 11) (oi := { dst := some 41, op := _, type := _, pos := _, after := _, guard := _ }) (v := ?_) rfl (by kernel_rfl) (by kernel_rfl) (by kernel_rfl) (fun _ _ _ h => h) (Or.inl ⟨by rfl, ?_⟩) hH ?_
          rotate_left 1
          · intro W hSw
            (try dsimp only at hSw)
            go_simp
            (try with_reducible rfl)
          try simp only [Act.put, List.setIfInBounds_toArray, List.set_cons_zero, List.set_cons_succ]
          refine wpAnyH_done (by kernel_rfl) ?_ _
          refine NoPanic.normal ?_
          have B4 := Lib.hid (BW.out.trans ((B3.out.trans (hH.2.mono B3.out.size)).mono BW.out.size))
          have B5 := Lib.hid (BN.out.trans (hH.2.mono BN.out.size))
          clear hH BN
          have BN := B5
          clear B5
          cases r
          · have HH := Lib.hid (show heldB zs = false from held_no fun H => by have := H k _ HZ.out; rw [HQ.out] at this; cases this)
            go_wp2_with fail
            go_ret
            exact ⟨by rw [HH.out]; rfl, B4.out⟩
          · go_wp2_with fail
            go_roundw
            case rel => exact ⟨k + 1, by omega, by go_num, Lib.hid (fun j d hj hd => by
              by_cases e : j = k
              · subst e; rw [HZ.out] at hd; cases hd; exact HQ.out
              · exact AK.out j d (by omega) hd), BN⟩
            case measure => simp [intOf]; omega
      by_cases q3 : q = 3
      · subst q3
        rw [show pt n 3 l x y h t m c = .iface 205 (hv n 3 l x y h t m c) from rfl] at hp
        have ta := as_lamp
        obtain ⟨b, o, eA, hbl, hcell⟩ := RW.out.get (k := k * 8) (by rw [dls_len, HN.out]; omega)
        have z2 := (dls_get hz).2.2.1
        have cl2 : wr.cell? ⟨b, o + k * 8 + 2, none⟩ = some (.string l) := by rw [Nat.add_assoc]; exact hcell _ _ z2
        have HC := Lib.hid hcell
        have CF := Lib.hid (findI A n0 c9 zs l wr HN.out hb (RW.out.more BW.out.size))
        subst eA
        clear z2 hcell hz
        go_wp2_with fail
        refine CF.out.mono ?_
        rintro e w3 ⟨rfl, hb3⟩
        have B3 := Lib.hid hb3
        have BN := Lib.hid (BK.out.trans (hb3.mono BK.out.size))
        clear hb3 CF cl2 hp ta
        rcases fd_cases zs l with hf | ⟨j, hf, hj, d, hd, _⟩
        · rw [hf]
          have HH := Lib.hid (show heldB zs = false from held_no fun H => by
            have := H k _ HZ.out
            rw [show hgV zs 3 l = kAt zs (fd zs l) 2 from rfl, hf, kAt_no] at this
            cases this)
          clear hf
          go_wp2_with fail
          refine wp_region_noPanic ?_
          refine wp_region_held_drew (S := (fun w' => Below w3.heap.size w3 w')) (by kernel_rfl) ?_ (fun hH => ?_)
          · exact (Below.refl _ _).drew
          refine wpAnyH_take (i := 0) (oi := { dst := some 30, op := _, type := _, pos := _, after := _, guard := _ }) (v := ?_) rfl (by kernel_rfl) (by kernel_rfl) (by kernel_rfl) (fun _ _ _ h => h) (Or.inl ⟨by rfl, ?_⟩) hH ?_
          rotate_left 1
          · intro W hSw
            (try dsimp only at hSw)
            go_simp
            (try with_reducible rfl)
          try simp only [Act.put, List.setIfInBounds_toArray, List.set_cons_zero, List.set_cons_succ]
          refine wpAnyH_take (i := 1) (oi := { dst := some 31, op := _, type := _, pos := _, after := _, guard := _ }) (v := ?_) rfl (by kernel_rfl) (by kernel_rfl) (by kernel_rfl) (fun _ _ _ h => h) (Or.inl ⟨by rfl, ?_⟩) hH ?_
          rotate_left 1
          · intro W hSw
            (try dsimp only at hSw)
            go_simp
            (try with_reducible rfl)
          try simp only [Act.put, List.setIfInBounds_toArray, List.set_cons_zero, List.set_cons_succ]
          refine wpAnyH_take (i := 2) (oi := { dst := some 32, op := _, type := _, pos := _, after := _, guard := _ }) (v := ?_) rfl (by kernel_rfl) (by kernel_rfl) (by kernel_rfl) (fun _ _ _ h => h) (Or.inl ⟨by rfl, ?_⟩) hH ?_
          rotate_left 1
          · intro W hSw
            (try dsimp only at hSw)
            go_simp
            (try with_reducible rfl)
          try simp only [Act.put, List.setIfInBounds_toArray, List.set_cons_zero, List.set_cons_succ]
          refine wpAnyH_take (i := 3) (oi := { dst := some 33, op := _, type := _, pos := _, after := _, guard := _ }) (v := undef) rfl (by kernel_rfl) (by kernel_rfl) (by kernel_rfl) (fun _ _ _ h => h) (Or.inr ⟨by simp [Region.wanted, yielded, hu], rfl⟩) hH ?_
          try simp only [Act.put, List.setIfInBounds_toArray, List.set_cons_zero, List.set_cons_succ]
          refine wpAnyH_take (i := 4) (oi := { dst := some 34, op := _, type := _, pos := _, after := _, guard := _ }) (v := undef) rfl (by kernel_rfl) (by kernel_rfl) (by kernel_rfl) (fun _ _ _ h => h) (Or.inr ⟨by simp [Region.wanted, yielded, hu], rfl⟩) hH ?_
          try simp only [Act.put, List.setIfInBounds_toArray, List.set_cons_zero, List.set_cons_succ]
          refine wpAnyH_take (i := 5) (oi := { dst := some 35, op := _, type := _, pos := _, after := _, guard := _ }) (v := undef) rfl (by kernel_rfl) (by kernel_rfl) (by kernel_rfl) (fun _ _ _ h => h) (Or.inr ⟨by simp [Region.wanted, yielded, hu], rfl⟩) hH ?_
          try simp only [Act.put, List.setIfInBounds_toArray, List.set_cons_zero, List.set_cons_succ]
          refine wpAnyH_take (i := 6) (oi := { dst := some 36, op := _, type := _, pos := _, after := _, guard := _ }) (v := undef) rfl (by kernel_rfl) (by kernel_rfl) (by kernel_rfl) (fun _ _ _ h => h) (Or.inr ⟨by simp [Region.wanted, yielded, hu], rfl⟩) hH ?_
          try simp only [Act.put, List.setIfInBounds_toArray, List.set_cons_zero, List.set_cons_succ]
          refine wpAnyH_take (i := 7) (oi := { dst := some 37, op := _, type := _, pos := _, after := _, guard := _ }) (v := undef) rfl (by kernel_rfl) (by kernel_rfl) (by kernel_rfl) (fun _ _ _ h => h) (Or.inr ⟨by simp [Region.wanted, yielded, hu], rfl⟩) hH ?_
          try simp only [Act.put, List.setIfInBounds_toArray, List.set_cons_zero, List.set_cons_succ]
          refine wpAnyH_take (i := 8) (oi := { dst := some 38, op := _, type := _, pos := _, after := _, guard := _ }) (v := undef) rfl (by kernel_rfl) (by kernel_rfl) (by kernel_rfl) (fun _ _ _ h => h) (Or.inr ⟨by simp [Region.wanted, yielded, hu], rfl⟩) hH ?_
          try simp only [Act.put, List.setIfInBounds_toArray, List.set_cons_zero, List.set_cons_succ]
          refine wpAnyH_take (i := 9) (oi := { dst := some 39, op := _, type := _, pos := _, after := _, guard := _ }) (v := undef) rfl (by kernel_rfl) (by kernel_rfl) (by kernel_rfl) (fun _ _ _ h => h) (Or.inr ⟨by simp [Region.wanted, yielded, hu], rfl⟩) hH ?_
          try simp only [Act.put, List.setIfInBounds_toArray, List.set_cons_zero, List.set_cons_succ]
          refine wpAnyH_take (i := 10) (oi := { dst := some 40, op := _, type := _, pos := _, after := _, guard := _ }) (v := undef) rfl (by kernel_rfl) (by kernel_rfl) (by kernel_rfl) (fun _ _ _ h => h) (Or.inr ⟨by simp [Region.wanted, yielded, hu], rfl⟩) hH ?_
          try simp only [Act.put, List.setIfInBounds_toArray, List.set_cons_zero, List.set_cons_succ]
          refine wpAnyH_take (i := 11) (oi := { dst := some 41, op := _, type := _, pos := _, after := _, guard := _ }) (v := ?_) rfl (by kernel_rfl) (by kernel_rfl) (by kernel_rfl) (fun _ _ _ h => h) (Or.inl ⟨by rfl, ?_⟩) hH ?_
          rotate_left 1
          · intro W hSw
            (try dsimp only at hSw)
            go_simp
            (try with_reducible rfl)
          try simp only [Act.put, List.setIfInBounds_toArray, List.set_cons_zero, List.set_cons_succ]
          refine wpAnyH_done (by kernel_rfl) ?_ _
          refine NoPanic.normal ?_
          have B4 := Lib.hid (BW.out.trans ((B3.out.trans (hH.mono B3.out.size)).mono BW.out.size))
          clear hH
          go_wp2_with fail
          go_ret
          exact ⟨by rw [HH.out]; rfl, B4.out⟩
        · rw [hf]
          have HF := Lib.hid hf
          have HD := Lib.hid hd
          have hj0 : j < n0 := by rw [← HN.out]; exact hj
          have ck : w3.cell? ⟨b, o + j * 8 + 1, none⟩ = some (.int .i64 d.kd) := by
            rw [Nat.add_assoc]; exact (B3.out.cell (p := ⟨b, o + (j * 8 + 1), none⟩) (Nat.lt_of_lt_of_le hbl BW.out.size)).trans (HC.out _ _ (dls_get hd).2.1)
          have HQ := Lib.hid (show hgV zs 3 l = (d.kd == 2) by rw [show hgV zs 3 l = kAt zs (fd zs l) 2 from rfl, hf, kAt_yes hd])
          obtain ⟨u, hu2⟩ : ∃ u, d.kd = u := ⟨_, rfl⟩
          rw [hu2] at ck HQ
          obtain ⟨r, hr⟩ : ∃ r, (u == 2) = r := ⟨_, rfl⟩
          rw [hr] at HQ
          have hq : decide (u = 2) = r := by rw [← hr]; by_cases e : u = 2 <;> simp [e]
          have hneg : decide ((j : Int) < 0) = false := decide_eq_false (by omega)
          have hneg2 : ¬ (j : Int) < 0 := by omega
          have HK := Lib.hid (fun W => holder3 n 3 l x y h t m c W)
          clear hf hd hj hu2
          go_wp2_with fail
          refine wp_region_noPanic ?_
          refine wp_region_held_drew (S := (fun w' => w'.cell? ⟨b, o + j * 8 + 1, none⟩ = some (.int .i64 u) ∧ Below w3.heap.size w3 w')) (by kernel_rfl) ?_ (fun hH => ?_)
          · exact ⟨ck, (Below.refl _ _).drew⟩
          refine wpAnyH_take (i := 0) (oi := { dst := some 30, op := _, type := _, pos := _, after := _, guard := _ }) (v := ?_) rfl (by kernel_rfl) (by kernel_rfl) (by kernel_rfl) (fun _ _ _ h => h) (Or.inl ⟨by rfl, ?_⟩) hH ?_
          rotate_left 1
          · intro W hSw
            (try dsimp only at hSw)
            go_simp
            (try with_reducible rfl)
          try simp only [Act.put, List.setIfInBounds_toArray, List.set_cons_zero, List.set_cons_succ]
          refine wpAnyH_take (i := 1) (oi := { dst := some 31, op := _, type := _, pos := _, after := _, guard := _ }) (v := ?_) rfl (by kernel_rfl) (by kernel_rfl) (by kernel_rfl) (fun _ _ _ h => h) (Or.inl ⟨by rfl, ?_⟩) hH ?_
          rotate_left 1
          · intro W hSw
            (try dsimp only at hSw)
            go_simp
            (try with_reducible rfl)
          try simp only [Act.put, List.setIfInBounds_toArray, List.set_cons_zero, List.set_cons_succ]
          refine wpAnyH_take (i := 2) (oi := { dst := some 32, op := _, type := _, pos := _, after := _, guard := _ }) (v := ?_) rfl (by kernel_rfl) (by kernel_rfl) (by kernel_rfl) (fun _ _ _ h => h) (Or.inl ⟨by rfl, ?_⟩) hH ?_
          rotate_left 1
          · intro W hSw
            (try dsimp only at hSw)
            go_simp
            (try with_reducible rfl)
          try simp only [Act.put, List.setIfInBounds_toArray, List.set_cons_zero, List.set_cons_succ]
          refine wpAnyH_take (i := 3) (oi := { dst := some 33, op := _, type := _, pos := _, after := _, guard := _ }) (v := ?_) rfl (by kernel_rfl) (by kernel_rfl) (by kernel_rfl) (fun _ _ _ h => h) (Or.inl ⟨by rfl, ?_⟩) hH ?_
          rotate_left 1
          · intro W hSw
            (try dsimp only at hSw)
            go_simp
            (try with_reducible rfl)
          try simp only [Act.put, List.setIfInBounds_toArray, List.set_cons_zero, List.set_cons_succ]
          refine wpAnyH_take (i := 4) (oi := { dst := some 34, op := _, type := _, pos := _, after := _, guard := _ }) (v := ?_) rfl (by kernel_rfl) (by kernel_rfl) (by kernel_rfl) (fun _ _ _ h => h) (Or.inl ⟨by rfl, ?_⟩) hH ?_
          rotate_left 1
          · intro W hSw
            (try dsimp only at hSw)
            go_simp
            (try with_reducible rfl)
          try simp only [Act.put, List.setIfInBounds_toArray, List.set_cons_zero, List.set_cons_succ]
          refine wpAnyH_take (i := 5) (oi := { dst := some 35, op := _, type := _, pos := _, after := _, guard := _ }) (v := ?_) rfl (by kernel_rfl) (by kernel_rfl) (by kernel_rfl) (fun _ _ _ h => h) (Or.inl ⟨by rfl, ?_⟩) hH ?_
          rotate_left 1
          · intro W hSw
            (try dsimp only at hSw)
            go_simp
            (try with_reducible rfl)
          try simp only [Act.put, List.setIfInBounds_toArray, List.set_cons_zero, List.set_cons_succ]
          refine wpAnyH_take (i := 6) (oi := { dst := some 36, op := _, type := _, pos := _, after := _, guard := _ }) (v := ?_) rfl (by kernel_rfl) (by kernel_rfl) (by kernel_rfl) (fun _ _ _ h => h) (Or.inl ⟨by rfl, ?_⟩) hH ?_
          rotate_left 1
          · intro W hSw
            (try dsimp only at hSw)
            go_simp
            (try with_reducible rfl)
          try simp only [Act.put, List.setIfInBounds_toArray, List.set_cons_zero, List.set_cons_succ]
          refine wpAnyH_take (i := 7) (oi := { dst := some 37, op := _, type := _, pos := _, after := _, guard := _ }) (v := ?_) rfl (by kernel_rfl) (by kernel_rfl) (by kernel_rfl) (fun _ _ _ h => h) (Or.inl ⟨by rfl, ?_⟩) hH ?_
          rotate_left 1
          · intro W hSw
            (try dsimp only at hSw)
            go_simp
            (try with_reducible rfl)
          try simp only [Act.put, List.setIfInBounds_toArray, List.set_cons_zero, List.set_cons_succ]
          refine wpAnyH_take (i := 8) (oi := { dst := some 38, op := _, type := _, pos := _, after := _, guard := _ }) (v := ?_) rfl (by kernel_rfl) (by kernel_rfl) (by kernel_rfl) (fun _ _ _ h => h) (Or.inl ⟨by rfl, ?_⟩) hH ?_
          rotate_left 1
          · intro W hSw
            (try dsimp only at hSw)
            go_simp
            (try with_reducible rfl)
          try simp only [Act.put, List.setIfInBounds_toArray, List.set_cons_zero, List.set_cons_succ]
          refine wpAnyH_ready (rs := [9]) (by kernel_rfl) (by simp) (AllReadyH.cons rfl (fun K hK => ?_) AllReadyH.nil)
          go_simp
          rw [me3]; go_simp; go_at_call 243; ((with_reducible refine (HK.out _).mono ?_); rintro e r1 ⟨rfl, hb9⟩); go_wp2_with fail
          refine hK.out _ _ ?_ (fun hG => ?_)
          · exact ⟨cell_below hb9 hH.1, Below.trans hH.2 (hb9.mono hH.2.size)⟩
          replace hH := hG
          clear hK K hG
          try simp only [Act.put, List.setIfInBounds_toArray, List.set_cons_zero, List.set_cons_succ]
          refine wpAnyH_take (i := 10) (oi := { dst := some 40, op := _, type := _, pos := _, after := _, guard := _ }) (v := ?_) rfl (by kernel_rfl) (by kernel_rfl) (by kernel_rfl) (fun _ _ _ h => h) (Or.inl ⟨by rfl, ?_⟩) hH ?_
          rotate_left 1
          · intro W hSw
            (try dsimp only at hSw)
            go_simp
            (try with_reducible rfl)
          try simp only [Act.put, List.setIfInBounds_toArray, List.set_cons_zero, List.set_cons_succ]
          refine wpAnyH_take (i := 11) (oi := { dst := some 41, op := _, type := _, pos := _, after := _, guard := _ }) (v := ?_) rfl (by kernel_rfl) (by kernel_rfl) (by kernel_rfl) (fun _ _ _ h => h) (Or.inl ⟨by rfl, ?_⟩) hH ?_
          rotate_left 1
          · intro W hSw
            (try dsimp only at hSw)
            go_simp
            (try with_reducible rfl)
          try simp only [Act.put, List.setIfInBounds_toArray, List.set_cons_zero, List.set_cons_succ]
          refine wpAnyH_done (by kernel_rfl) ?_ _
          refine NoPanic.normal ?_
          have B4 := Lib.hid (BW.out.trans ((B3.out.trans (hH.2.mono B3.out.size)).mono BW.out.size))
          have B5 := Lib.hid (BN.out.trans (hH.2.mono BN.out.size))
          clear hH BN
          have BN := B5
          clear B5
          cases r
          · have HH := Lib.hid (show heldB zs = false from held_no fun H => by have := H k _ HZ.out; rw [HQ.out] at this; cases this)
            go_wp2_with fail
            go_ret
            exact ⟨by rw [HH.out]; rfl, B4.out⟩
          · go_wp2_with fail
            go_roundw
            case rel => exact ⟨k + 1, by omega, by go_num, Lib.hid (fun j d hj hd => by
              by_cases e : j = k
              · subst e; rw [HZ.out] at hd; cases hd; exact HQ.out
              · exact AK.out j d (by omega) hd), BN⟩
            case measure => simp [intOf]; omega
      rw [show pt n q l x y h t m c = .nilIface by simp [pt, q1, q2, q3]] at hp
      have ta := as_nil
      have BN := BK
      have HH := Lib.hid (hgV_o q2 q3 zs l)
      clear hz q1 q2 q3
      go_wp2_with fail
      go_roundw
      case rel => exact ⟨k + 1, by omega, by go_num, Lib.hid (fun j d hj hd => by
        by_cases e : j = k
        · subst e; rw [HZ.out] at hd; cases hd; exact HH.out
        · exact AK.out j d (by omega) hd), BN⟩
      case measure => simp [intOf]; omega
    · obtain rfl : k = n0 := by omega
      have HH := Lib.hid (show heldB zs = true from held_yes fun j d hd => AK.out j d (by have := (List.getElem?_eq_some_iff.1 hd).1; rw [HN.out] at this; exact this) hd)
      have B4 := Lib.hid (B0.out.trans (BK.out.mono B0.out.size))
      go_wp2_with fail
      go_ret
      exact ⟨by rw [HH.out]; rfl, B4.out⟩
end Go.Proofs.YtokncfhpmjohdaaGreat.Ig
