/- The law FnLit holds at every input. The step from the walk to the row follows the guide's own template. -/
import Derived.Test.YtdkihpnckkfneaaGreatM1
import Derived.Test.YtdkihpnckkfneaaGreatDh9
import Derived.Test.YtdkihpnckkfneaaGreatM22
import Derived.Test.YtdkihpnckkfneaaGreatM23
import Derived.Test.YtdkihpnckkfneaaGreatM21
import Derived.Test.YtdkihpnckkfneaaGreatTakeC
import Derived.Deep.RegionHeld3
import Derived.Deep.DeepCutAuto
namespace Go.Proofs.YtdkihpnckkfneaaGreat.fnLit
open Go.ChangeShapes Go.WideShapes Go.ChangeAt Go.RowKit Go.WideMaps Go.WideElems Go.Proofs.YtdkihpnckkfneaaGreat.Mem
open Go.ChangeMaps (open_string shut_string)
set_option linter.unusedVariables false
set_option linter.unusedSimpArgs false

theorem own : ownKnob Tryz.prog.godebug = none := by kernel_rfl
theorem laidOut : laidOutB Tryz.prog = true := by kernel_rfl

open Go.Proofs.YtdkihpnckkfneaaGreat.P2 Go.Proofs.YtdkihpnckkfneaaGreat.Bk Go.Proofs.YtdkihpnckkfneaaGreat.Sp Go.Proofs.YtdkihpnckkfneaaGreat.Sq 
open Go.Proofs.YtdkihpnckkfneaaGreat.Sv hiding D C G
open Go.Proofs.YtdkihpnckkfneaaGreat.Dh9 Go.Proofs.YtdkihpnckkfneaaGreat.Nl9 Go.Proofs.YtdkihpnckkfneaaGreat.Lt9 Go.Proofs.YtdkihpnckkfneaaGreat.Ja9 Go.Proofs.YtdkihpnckkfneaaGreat.Ha
open Go.Proofs.YtdkihpnckkfneaaGreat.Rw (owns_below owns_grown owns_base)

set_option maxRecDepth 100000
theorem step_store9 {ops : Array Oper} {o : Oper} {a : Act} {w : World} {K : Act → World → Prop} {Q : Exit → Act → World → Prop} {E : Prop} (hgd : o.guard = none) (ty : TypeId) (x y : Operand) (ho : o.op = .store ty x y)
    (g : Nat) (cells : Array Value) (hx : a.eval x = .pointer (some ⟨g, 0, none⟩)) (hy : a.eval y = .agg cells) (t : TypeId) (old : Array Value) (hg : Bk w g old t) (hi : (Tryz.prog.info? ty).map (·.size) = some cells.size)
    (hold : old.size = cells.size) (h1 : cells.all (·.oneCell') = true) (h : K (a.put o.dst undef) (w.setRow g cells)) : if Region.wanted o (yielded ops a.tmps) = true then Oper.wp Tryz.prog o a w K Q else E := by
  have hw : Region.wanted o (yielded ops a.tmps) = true := by simp [Region.wanted, hgd]
  rw [if_pos hw]
  exact wp_store_row ty x y ho g cells hx hy t old hg hi hold h1 h
theorem row_grown9 (w : World) (g : Nat) (cells : Array Value) : w.grownBy (w.setRow g cells) (some g) := ⟨rfl, rfl, rfl, by simp, fun k _ hk => setRow_other w g k _ (fun e => hk (by rw [e]))⟩

set_option maxHeartbeats 8000000 in
set_option maxRecDepth 100000 in
theorem walk (A : Option Addr) (n c : Nat) (bs : List UInt8) (hn : bs.length = n) (hm : n ≤ maxLen) (w : World) (hr : Rd w w.heap.size A (Draw.u8s bs)) :
    Calls Tryz.prog 4 #[.slice A n c] w fun e w' => e = .returned (.bool true) ∧ Below w.heap.size w w' := by
  have hu : undef = Value.tuple #[] := rfl
  by_cases hbig : (n : Int) ≤ 4096
  · have D := Lib.hid (drawS w A n c bs hn (by omega) hr)
    clear hm
    go_enter Tryz.func4, Tryz.ntmps4
    go_wp2_with (go_at_call 5; go_enter Tryz.func5, Tryz.ntmps5)
    refine D.out.mono ?_
    rintro e wd0 ⟨ds, cs, gs, T, t, q0, g0, c0, A1, q1, c1, q2, g2, c2, e0, e1, e2, hH, ht0, ht1, rfl, o0, o1, o2, hB⟩
    have h9 := Lib.hid (drawn_show hH.score.1 hH.rig.1 hH.wind hH.t0 hH.t1)
    have HF := Lib.hid (show Fit q0 q1 q2 ds cs gs from ⟨⟨e0, by have := hH.rig.len; omega⟩, ⟨e1, by have := hH.score.2.1; omega⟩, e2, by have := hH.few; omega⟩)
    have hq0 : q0 ≤ 8 := by have := hH.rig.len; omega
    have HN := Lib.hid e0
    have wt : (Lit.int .i64 t).wf = true := Draw.wf_of_small (by omega) (by omega)
    have hsz := hH.rig.sizes
    have hsc := hH.score.sizes
    have HS0 := Lib.hid (show SR wd0 (some ⟨g0, 0, none⟩) A1 (some ⟨g2, 0, none⟩) ds cs gs from ⟨Rd.own o0, own_rd o1, Rd.own o2⟩)
    have B0 := Lib.hid hB
    clear e0 e1 e2 ht0 ht1 o0 o1 o2 hB hbig hn hr D
    generalize (some (⟨g0, 0, none⟩ : Addr)) = A0 at *
    generalize (some (⟨g2, 0, none⟩ : Addr)) = A2 at *
    obtain ⟨l, hl⟩ : ∃ l, litV ds cs gs T t ds = l := ⟨_, rfl⟩
    obtain ⟨p, hp⟩ : ∃ p, l.length = p := ⟨_, rfl⟩
    have hp8 : p ≤ 8 := by have := lit_len ds cs gs T t ds; have := HN.out; rw [← hp, ← hl]; omega
    have HP := Lib.hid hp
    have LC := Lib.hid (show ∀ (W : World) (h : SR W A0 A1 A2 ds cs gs), Calls Tryz.prog 11 #[sv A0 q0 c0 A1 q1 c1 A2 q2 c2 T, .int .i64 t] W (fun e w' => ∃ g c, e = .returned (.slice (some ⟨g, 0, none⟩) p c) ∧ w'.ownsRow W.heap.size 9 1 (.slice (some ⟨g, 0, none⟩) p c) p (Strs.strs l) ∧ Below W.heap.size W w') from fun W h => by have := Lu9.litI A0 q0 c0 A1 q1 c1 A2 q2 c2 T ds cs gs t W HF.out h wt; unfold RowS at this; rw [hl, hp] at this; exact this)
    have LD := Lib.hid (show ∀ (W : World) (h : SR W A0 A1 A2 ds cs gs), Calls Tryz.prog 12 #[sv A0 q0 c0 A1 q1 c1 A2 q2 c2 T, .int .i64 t] W (fun e w' => ∃ g c, e = .returned (.slice (some ⟨g, 0, none⟩) p c) ∧ w'.ownsRow W.heap.size 9 1 (.slice (some ⟨g, 0, none⟩) p c) p (Strs.strs l) ∧ Below W.heap.size W w') from fun W h => by have := Lv9.litS A0 q0 c0 A1 q1 c1 A2 q2 c2 T ds cs gs t W HF.out h hsz hsc wt; unfold RowS at this; rw [hl, hp] at this; exact this)
    have CJ := Lib.hid (fun (s : ByteArray) (W : World) (h : SR W A0 A1 A2 ds cs gs) => Jb9.jetAtI A0 q0 c0 A1 q1 c1 A2 q2 c2 T ds cs gs s t W HF.out h wt)
    have HH := Lib.hid (show ∀ (k : Nat) (d : D), ds[k]? = some d → hasN l d.nm = litB ds cs gs T t d from fun k d hd => by rw [← hl]; exact lit_has h9.out hd)
    have HK := Lib.hid (show ∀ (k : Nat) (d : D), ds[k]? = some d → (decide (d.kd = 3) && litB ds cs gs T t d) = litB ds cs gs T t d from fun k d hd => lit_kind h9.out hd)
    clear hl hp wt hsz hsc hH
    have hb := (Below.refl wd0.heap.size wd0).alloc (Nat.le_refl _) (.cells #[.slice A0 q0 c0, .slice A1 q1 c1, .slice A2 q2 c2, .int .i64 T] 28)
    have KB := Lib.hid (Bk.new wd0 #[.slice A0 q0 c0, .slice A1 q1 c1, .slice A2 q2 c2, .int .i64 T] 28)
    have HS := Lib.hid (HS0.out.below hb)
    have BB := Lib.hid (B0.out.trans (hb.mono B0.out.size))
    clear hb HS0 B0 HF
    go_upto_region 4 with fail
    generalize wd0.alloc (.cells #[.slice A0 q0 c0, .slice A1 q1 c1, .slice A2 q2 c2, .int .i64 T] 28) = w1 at *
    generalize wd0.heap.size = bx at *
    have b0 := KB.out.cell (i := 0) rfl
    have b1 := KB.out.cell (i := 1) rfl
    have b2 := KB.out.cell (i := 2) rfl
    have b3 := KB.out.cell (i := 3) rfl
    go_wp2_with fail
    refine (LC.out _ HS.out).mono ?_
    rintro e w2 ⟨gl, cl, rfl, ho, hb⟩
    have LR := Lib.hid (Rd.own ho)
    clear ho b0 b1 b2 b3 LC
    have KBn := Lib.hid (KB.out.below hb)
    have HSn := Lib.hid (HS.out.below hb)
    have BBn := Lib.hid (BB.out.trans (hb.mono BB.out.size))
    clear KB HS BB
    have KB := KBn
    have HS := HSn
    have BB := BBn
    clear KBn HSn BBn
    clear hb
    have b0 := KB.out.cell (i := 0) rfl
    have b1 := KB.out.cell (i := 1) rfl
    have b2 := KB.out.cell (i := 2) rfl
    have b3 := KB.out.cell (i := 3) rfl
    go_wp2_with fail
    refine (LD.out _ HS.out).mono ?_
    rintro e w3 ⟨gm, cm, rfl, _, hb⟩
    have LRn := Lib.hid ((LR.out.below hb).more hb.size)
    clear LR b0 b1 b2 b3 LD
    have LR := LRn
    clear LRn
    have KBn := Lib.hid (KB.out.below hb)
    have HSn := Lib.hid (HS.out.below hb)
    have BBn := Lib.hid (BB.out.trans (hb.mono BB.out.size))
    clear KB HS BB
    have KB := KBn
    have HS := HSn
    have BB := BBn
    clear KBn HSn BBn
    clear hb
    go_wp2_with fail
    go_loopw [6] (fun i wr => ∃ k : Nat, k ≤ q0 ∧ i = .int .i64 k ∧ Hid (Below w3.heap.size w3 wr)) (fun i _ => q0 - (intOf i).toNat)
    case atStart => exact ⟨0, Nat.zero_le _, rfl, Lib.hid (Below.refl _ _)⟩
    case round =>
      obtain ⟨k, hk, rfl, BW⟩ := hrel
      have KW := Lib.hid (KB.out.below BW.out)
      have HW := Lib.hid (HS.out.below BW.out)
      have BBW := Lib.hid (BB.out.trans (BW.out.mono BB.out.size))
      have b0 := KW.out.cell (i := 0) rfl
      by_cases hlt : k < q0
      · obtain ⟨z, hz⟩ : ∃ z, ds[k]? = some z := ⟨_, List.getElem?_eq_getElem (by rw [HN.out]; exact hlt)⟩
        have HZ := Lib.hid hz
        clear hz
        obtain ⟨dn, dk, dl, dx, dy, dh, dt, dm⟩ := z
        obtain ⟨bD, oD, eA, hbl, hcell⟩ := (HW.out.r0).get (k := k * 8) (by rw [Dd.dls_len, HN.out]; omega)
        obtain ⟨z0, z1, z2, z3, z4, z5, z6, z7⟩ := Dd.dls_get HZ.out
        have v0 := hcell (k * 8) _ z0
        have v1 := hcell (k * 8 + 1) _ z1
        rw [← Nat.add_assoc] at v1
        have v2 := hcell (k * 8 + 2) _ z2
        rw [← Nat.add_assoc] at v2
        have V := Lib.hid (And.intro v0 (And.intro v1 v2))
        clear hcell hbl z0 z1 z2 z3 z4 z5 z6 z7 v0 v1 v2
        subst eA
        have CK := Lib.hid (CJ.out dl)
        obtain ⟨ax, ay, ah, at9, al, hjv⟩ := jvO_form (jaV ds cs gs T dl t)
        rw [hjv] at CK
        obtain ⟨rb, hrb⟩ : ∃ rb, litB ds cs gs T t ⟨dn, dk, dl, dx, dy, dh, dt, dm⟩ = rb := ⟨_, rfl⟩
        rw [show (jaV ds cs gs T dl t).isSome = rb from hrb] at CK
        have HA1 := Lib.hid (show hasN l dn = rb by rw [← hrb]; exact HH.out k _ HZ.out)
        have HA2 := Lib.hid (show (decide (dk = 3) && rb) = rb by rw [← hrb]; exact HK.out k _ HZ.out)
        have qk : ¬ q0 ≤ k := by omega
        clear hjv hrb
        go_upto_region 10 with fail
        clear b0
        go_cut [7, 8] (fun a b wx => ∃ kk, a = .pointer (some ⟨kk, 0, none⟩) ∧ b = .bool rb ∧ Hid (Below wr.heap.size wr wx))
        case first =>
          have b0 := KW.out.cell (i := 0) rfl
          have b1 := KW.out.cell (i := 1) rfl
          have b2 := KW.out.cell (i := 2) rfl
          have b3 := KW.out.cell (i := 3) rfl
          have lx : bx < wr.heap.size := KW.out.lt
          have ly : bD < wr.heap.size := World.block_lt_of_cell? _ _ V.out.1
          refine wp_region_noPanic ?_
          refine wp_region_held_drew (S := (fun w' => w'.cell? ⟨bx, 0, none⟩ = some (.slice (some ⟨bD, oD, none⟩) q0 c0) ∧ w'.cell? ⟨bx, 1, none⟩ = some (.slice A1 q1 c1) ∧ w'.cell? ⟨bx, 2, none⟩ = some (.slice A2 q2 c2) ∧ w'.cell? ⟨bx, 3, none⟩ = some (.int .i64 T) ∧ w'.cell? ⟨bD, oD + k * 8 + 2, none⟩ = some (.string dl) ∧ Below wr.heap.size wr w')) (by kernel_rfl) ?_ (fun hH => ?_)
          · exact ⟨b0, b1, b2, b3, V.out.2.2, (Below.refl _ _).drew⟩
          clear b0 b1 b2 b3
          refine wpAnyH_take (i := 0) (oi := { dst := some 34, op := _, type := _, pos := _, after := _, guard := _ }) (v := ?_) rfl (by kernel_rfl) (by kernel_rfl) (by kernel_rfl) (fun _ _ _ h => h) (Or.inl ⟨by rfl, ?_⟩) hH ?_
          rotate_left 1
          · intro W hSw
            (try dsimp only at hSw)
            go_simp
            (try with_reducible rfl)
          try simp only [Act.put, List.setIfInBounds_toArray, List.set_cons_zero, List.set_cons_succ]
          refine wpAnyH_take (i := 1) (oi := { dst := some 35, op := _, type := _, pos := _, after := _, guard := _ }) (v := ?_) rfl (by kernel_rfl) (by kernel_rfl) (by kernel_rfl) (fun _ _ _ h => h) (Or.inl ⟨by rfl, ?_⟩) hH ?_
          rotate_left 1
          · intro W hSw
            (try dsimp only at hSw)
            go_simp
            (try with_reducible rfl)
          try simp only [Act.put, List.setIfInBounds_toArray, List.set_cons_zero, List.set_cons_succ]
          refine wpAnyH_take (i := 2) (oi := { dst := some 36, op := _, type := _, pos := _, after := _, guard := _ }) (v := ?_) rfl (by kernel_rfl) (by kernel_rfl) (by kernel_rfl) (fun _ _ _ h => h) (Or.inl ⟨by rfl, ?_⟩) hH ?_
          rotate_left 1
          · intro W hSw
            (try dsimp only at hSw)
            go_simp
            (try with_reducible rfl)
          try simp only [Act.put, List.setIfInBounds_toArray, List.set_cons_zero, List.set_cons_succ]
          refine wpAnyH_take (i := 3) (oi := { dst := some 37, op := _, type := _, pos := _, after := _, guard := _ }) (v := ?_) rfl (by kernel_rfl) (by kernel_rfl) (by kernel_rfl) (fun _ _ _ h => h) (Or.inl ⟨by rfl, ?_⟩) hH ?_
          rotate_left 1
          · intro W hSw
            (try dsimp only at hSw)
            go_simp
            (try with_reducible rfl)
          try simp only [Act.put, List.setIfInBounds_toArray, List.set_cons_zero, List.set_cons_succ]
          refine wpAnyH_take (i := 7) (oi := { dst := some 41, op := _, type := _, pos := _, after := _, guard := _ }) (v := ?_) rfl (by kernel_rfl) (by kernel_rfl) (by kernel_rfl) (fun _ _ _ h => h) (Or.inl ⟨by rfl, ?_⟩) hH ?_
          rotate_left 1
          · intro W hSw
            (try dsimp only at hSw)
            go_simp
            (try with_reducible rfl)
          try simp only [Act.put, List.setIfInBounds_toArray, List.set_cons_zero, List.set_cons_succ]
          refine wpAnyH_take (i := 4) (oi := { dst := some 38, op := _, type := _, pos := _, after := _, guard := _ }) (v := ?_) rfl (by kernel_rfl) (by kernel_rfl) (by kernel_rfl) (fun _ _ _ h => h) (Or.inl ⟨by rfl, ?_⟩) hH ?_
          rotate_left 1
          · intro W hSw
            (try dsimp only at hSw)
            go_simp
            (try with_reducible rfl)
          try simp only [Act.put, List.setIfInBounds_toArray, List.set_cons_zero, List.set_cons_succ]
          refine wpAnyH_take (i := 5) (oi := { dst := some 39, op := _, type := _, pos := _, after := _, guard := _ }) (v := ?_) rfl (by kernel_rfl) (by kernel_rfl) (by kernel_rfl) (fun _ _ _ h => h) (Or.inl ⟨by rfl, ?_⟩) hH ?_
          rotate_left 1
          · intro W hSw
            (try dsimp only at hSw)
            go_simp
            (try with_reducible rfl)
          try simp only [Act.put, List.setIfInBounds_toArray, List.set_cons_zero, List.set_cons_succ]
          refine wpAnyH_take (i := 6) (oi := { dst := some 40, op := _, type := _, pos := _, after := _, guard := _ }) (v := ?_) rfl (by kernel_rfl) (by kernel_rfl) (by kernel_rfl) (fun _ _ _ h => h) (Or.inl ⟨by rfl, ?_⟩) hH ?_
          rotate_left 1
          · intro W hSw
            (try dsimp only at hSw)
            go_simp
            (try with_reducible rfl)
          try simp only [Act.put, List.setIfInBounds_toArray, List.set_cons_zero, List.set_cons_succ]
          refine wpAnyH_ready (rs := [8, 12]) (by kernel_rfl) (by simp) (AllReadyH.cons rfl (fun K hK => ?_) (AllReadyH.cons rfl (fun K hK => ?_) (AllReadyH.nil)))
          · go_simp
            go_at_call 13; ((with_reducible refine (CK.out _ (HW.out.below hH.2.2.2.2.2)).mono ?_); rintro e r1 ⟨rfl, hb⟩); go_wp2_with fail
            refine hK.out _ _ ?_ (fun hG => ?_)
            · exact ⟨cell_below hb hH.1, cell_below hb hH.2.1, cell_below hb hH.2.2.1, cell_below hb hH.2.2.2.1, cell_below hb hH.2.2.2.2.1, hH.2.2.2.2.2.trans (hb.mono hH.2.2.2.2.2.size)⟩
            replace hH := hG
            clear hK K hG
            try simp only [Act.put, List.setIfInBounds_toArray, List.set_cons_zero, List.set_cons_succ]
            clear hb
            refine wpAnyH_take (i := 9) (oi := { dst := some 33, op := _, type := _, pos := _, after := _, guard := _ }) (v := ?_) rfl (by kernel_rfl) (by kernel_rfl) (by kernel_rfl) (fun _ _ _ h => h) (Or.inl ⟨by rfl, ?_⟩) hH ?_
            rotate_left 1
            · intro W hSw
              (try dsimp only at hSw)
              go_simp
              (try with_reducible rfl)
            try simp only [Act.put, List.setIfInBounds_toArray, List.set_cons_zero, List.set_cons_succ]
            refine wpAnyH_take (i := 10) (oi := { dst := some 43, op := _, type := _, pos := _, after := _, guard := _ }) (v := ?_) rfl (by kernel_rfl) (by kernel_rfl) (by kernel_rfl) (fun _ _ _ h => h) (Or.inl ⟨by rfl, ?_⟩) hH ?_
            rotate_left 1
            · intro W hSw
              (try dsimp only at hSw)
              go_simp
              (try with_reducible rfl)
            try simp only [Act.put, List.setIfInBounds_toArray, List.set_cons_zero, List.set_cons_succ]
            refine wpAnyH_take (i := 11) (oi := { dst := some 44, op := _, type := _, pos := _, after := _, guard := _ }) (v := ?_) rfl (by kernel_rfl) (by kernel_rfl) (by kernel_rfl) (fun _ _ _ h => h) (Or.inl ⟨by rfl, ?_⟩) hH ?_
            rotate_left 1
            · intro W hSw
              (try dsimp only at hSw)
              go_simp
              (try with_reducible rfl)
            try simp only [Act.put, List.setIfInBounds_toArray, List.set_cons_zero, List.set_cons_succ]
            refine wpAnyH_ready (rs := [12]) (by kernel_rfl) (by simp) (AllReadyH.cons rfl (fun K hK => ?_) (AllReadyH.nil))
            go_simp
            have hb : Below r1.heap.size r1 (r1.alloc (.cells #[.int .i64 0, .int .i64 0, .int .i64 0, .int .i64 0, .int .i64 0] 43)) := (Below.refl _ _).alloc (Nat.le_refl _) (.cells #[.int .i64 0, .int .i64 0, .int .i64 0, .int .i64 0, .int .i64 0] 43)
            have leA : wr.heap.size ≤ r1.heap.size := hH.2.2.2.2.2.size
            have KJ := Lib.hid (Bk.new r1 #[.int .i64 0, .int .i64 0, .int .i64 0, .int .i64 0, .int .i64 0] 43)
            refine hK.out _ _ ?_ (fun hG => ?_)
            · exact ⟨cell_below hb hH.1, cell_below hb hH.2.1, cell_below hb hH.2.2.1, cell_below hb hH.2.2.2.1, cell_below hb hH.2.2.2.2.1, hH.2.2.2.2.2.trans (hb.mono hH.2.2.2.2.2.size)⟩
            replace hH := hG
            clear hK K hG
            try simp only [Act.put, List.setIfInBounds_toArray, List.set_cons_zero, List.set_cons_succ]
            clear hb
            refine wpAnyH_ready (rs := [13]) (by kernel_rfl) (by simp) (AllReadyH.cons rfl (fun K hK => ?_) AllReadyH.nil)
            (refine step_store9 rfl 43 (.tmp 7) (.tmp 43) rfl (r1.heap.size) #[.int .i64 ax, .int .i64 ay, .int .i64 ah, .int .i64 at9, .int .i64 al] (by simp [Act.eval, Act.put]) (by simp [Act.eval, Act.put]) 43 #[.int .i64 0, .int .i64 0, .int .i64 0, .int .i64 0, .int .i64 0] KJ.out (by kernel_rfl) rfl (by simp [Value.oneCell']) ?_; refine (show K (Act.put _ none _) _ from ?_); have hgR := row_grown9 (r1.alloc (.cells #[.int .i64 0, .int .i64 0, .int .i64 0, .int .i64 0, .int .i64 0] 43)) (r1.heap.size) #[.int .i64 ax, .int .i64 ay, .int .i64 ah, .int .i64 at9, .int .i64 al])
            refine hK.out _ _ ?_ (fun hG => ?_)
            · exact ⟨hgR.cell hH.1 (fun e => by have e := Option.some.inj e; (have e9 : bx = r1.heap.size := e); omega), hgR.cell hH.2.1 (fun e => by have e := Option.some.inj e; (have e9 : bx = r1.heap.size := e); omega), hgR.cell hH.2.2.1 (fun e => by have e := Option.some.inj e; (have e9 : bx = r1.heap.size := e); omega), hgR.cell hH.2.2.2.1 (fun e => by have e := Option.some.inj e; (have e9 : bx = r1.heap.size := e); omega), hgR.cell hH.2.2.2.2.1 (fun e => by have e := Option.some.inj e; (have e9 : bD = r1.heap.size := e); omega), hH.2.2.2.2.2.grown hgR hH.2.2.2.2.2.size (fun z9 e9 => by have e9 := Option.some.inj e9; omega)⟩
            replace hH := hG
            clear hK K hG
            try simp only [Act.put, List.setIfInBounds_toArray, List.set_cons_zero, List.set_cons_succ]
            refine wpAnyH_take (i := 14) (oi := { dst := some 8, op := _, type := _, pos := _, after := _, guard := _ }) (v := ?_) rfl (by kernel_rfl) (by kernel_rfl) (by kernel_rfl) (fun _ _ _ h => h) (Or.inl ⟨by rfl, ?_⟩) hH ?_
            rotate_left 1
            · intro W hSw
              (try dsimp only at hSw)
              go_simp
              (try with_reducible rfl)
            try simp only [Act.put, List.setIfInBounds_toArray, List.set_cons_zero, List.set_cons_succ]
            refine wpAnyH_done (by kernel_rfl) ?_ _
            refine NoPanic.normal ?_
            have BF := Lib.hid hH.2.2.2.2.2
            clear hH hgR
            go_wp2_with fail
            go_meet
            exact ⟨_, rfl, rfl, BF⟩
          · go_simp
            have hb : Below wr.drew.heap.size wr.drew (wr.drew.alloc (.cells #[.int .i64 0, .int .i64 0, .int .i64 0, .int .i64 0, .int .i64 0] 43)) := (Below.refl _ _).alloc (Nat.le_refl _) (.cells #[.int .i64 0, .int .i64 0, .int .i64 0, .int .i64 0, .int .i64 0] 43)
            have leA : wr.heap.size ≤ wr.drew.heap.size := hH.2.2.2.2.2.size
            have KJ := Lib.hid (Bk.new wr.drew #[.int .i64 0, .int .i64 0, .int .i64 0, .int .i64 0, .int .i64 0] 43)
            refine hK.out _ _ ?_ (fun hG => ?_)
            · exact ⟨cell_below hb hH.1, cell_below hb hH.2.1, cell_below hb hH.2.2.1, cell_below hb hH.2.2.2.1, cell_below hb hH.2.2.2.2.1, hH.2.2.2.2.2.trans (hb.mono hH.2.2.2.2.2.size)⟩
            replace hH := hG
            clear hK K hG
            try simp only [Act.put, List.setIfInBounds_toArray, List.set_cons_zero, List.set_cons_succ]
            clear hb
            refine wpAnyH_ready (rs := [8]) (by kernel_rfl) (by simp) (AllReadyH.cons rfl (fun K hK => ?_) (AllReadyH.nil))
            go_simp
            go_at_call 13; ((with_reducible refine (CK.out _ (HW.out.below hH.2.2.2.2.2)).mono ?_); rintro e r1 ⟨rfl, hb⟩); go_wp2_with fail
            have KJn := Lib.hid (KJ.out.below hb)
            clear KJ
            have KJ := KJn
            refine hK.out _ _ ?_ (fun hG => ?_)
            · exact ⟨cell_below hb hH.1, cell_below hb hH.2.1, cell_below hb hH.2.2.1, cell_below hb hH.2.2.2.1, cell_below hb hH.2.2.2.2.1, hH.2.2.2.2.2.trans (hb.mono hH.2.2.2.2.2.size)⟩
            replace hH := hG
            clear hK K hG
            try simp only [Act.put, List.setIfInBounds_toArray, List.set_cons_zero, List.set_cons_succ]
            clear hb
            refine wpAnyH_take (i := 9) (oi := { dst := some 33, op := _, type := _, pos := _, after := _, guard := _ }) (v := ?_) rfl (by kernel_rfl) (by kernel_rfl) (by kernel_rfl) (fun _ _ _ h => h) (Or.inl ⟨by rfl, ?_⟩) hH ?_
            rotate_left 1
            · intro W hSw
              (try dsimp only at hSw)
              go_simp
              (try with_reducible rfl)
            try simp only [Act.put, List.setIfInBounds_toArray, List.set_cons_zero, List.set_cons_succ]
            refine wpAnyH_take (i := 10) (oi := { dst := some 43, op := _, type := _, pos := _, after := _, guard := _ }) (v := ?_) rfl (by kernel_rfl) (by kernel_rfl) (by kernel_rfl) (fun _ _ _ h => h) (Or.inl ⟨by rfl, ?_⟩) hH ?_
            rotate_left 1
            · intro W hSw
              (try dsimp only at hSw)
              go_simp
              (try with_reducible rfl)
            try simp only [Act.put, List.setIfInBounds_toArray, List.set_cons_zero, List.set_cons_succ]
            refine wpAnyH_take (i := 11) (oi := { dst := some 44, op := _, type := _, pos := _, after := _, guard := _ }) (v := ?_) rfl (by kernel_rfl) (by kernel_rfl) (by kernel_rfl) (fun _ _ _ h => h) (Or.inl ⟨by rfl, ?_⟩) hH ?_
            rotate_left 1
            · intro W hSw
              (try dsimp only at hSw)
              go_simp
              (try with_reducible rfl)
            try simp only [Act.put, List.setIfInBounds_toArray, List.set_cons_zero, List.set_cons_succ]
            refine wpAnyH_ready (rs := [13]) (by kernel_rfl) (by simp) (AllReadyH.cons rfl (fun K hK => ?_) AllReadyH.nil)
            (refine step_store9 rfl 43 (.tmp 7) (.tmp 43) rfl (wr.drew.heap.size) #[.int .i64 ax, .int .i64 ay, .int .i64 ah, .int .i64 at9, .int .i64 al] (by simp [Act.eval, Act.put]) (by simp [Act.eval, Act.put]) 43 #[.int .i64 0, .int .i64 0, .int .i64 0, .int .i64 0, .int .i64 0] KJ.out (by kernel_rfl) rfl (by simp [Value.oneCell']) ?_; refine (show K (Act.put _ none _) _ from ?_); have hgR := row_grown9 r1 (wr.drew.heap.size) #[.int .i64 ax, .int .i64 ay, .int .i64 ah, .int .i64 at9, .int .i64 al])
            refine hK.out _ _ ?_ (fun hG => ?_)
            · exact ⟨hgR.cell hH.1 (fun e => by have e := Option.some.inj e; (have e9 : bx = wr.drew.heap.size := e); omega), hgR.cell hH.2.1 (fun e => by have e := Option.some.inj e; (have e9 : bx = wr.drew.heap.size := e); omega), hgR.cell hH.2.2.1 (fun e => by have e := Option.some.inj e; (have e9 : bx = wr.drew.heap.size := e); omega), hgR.cell hH.2.2.2.1 (fun e => by have e := Option.some.inj e; (have e9 : bx = wr.drew.heap.size := e); omega), hgR.cell hH.2.2.2.2.1 (fun e => by have e := Option.some.inj e; (have e9 : bD = wr.drew.heap.size := e); omega), hH.2.2.2.2.2.grown hgR hH.2.2.2.2.2.size (fun z9 e9 => by have e9 := Option.some.inj e9; omega)⟩
            replace hH := hG
            clear hK K hG
            try simp only [Act.put, List.setIfInBounds_toArray, List.set_cons_zero, List.set_cons_succ]
            refine wpAnyH_take (i := 14) (oi := { dst := some 8, op := _, type := _, pos := _, after := _, guard := _ }) (v := ?_) rfl (by kernel_rfl) (by kernel_rfl) (by kernel_rfl) (fun _ _ _ h => h) (Or.inl ⟨by rfl, ?_⟩) hH ?_
            rotate_left 1
            · intro W hSw
              (try dsimp only at hSw)
              go_simp
              (try with_reducible rfl)
            try simp only [Act.put, List.setIfInBounds_toArray, List.set_cons_zero, List.set_cons_succ]
            refine wpAnyH_done (by kernel_rfl) ?_ _
            refine NoPanic.normal ?_
            have BF := Lib.hid hH.2.2.2.2.2
            clear hH hgR
            go_wp2_with fail
            go_meet
            exact ⟨_, rfl, rfl, BF⟩
        case rest =>
          obtain ⟨kk, rfl, rfl, BX⟩ := hcut
          have B2 := Lib.hid (BW.out.trans (BX.out.mono BW.out.size))
          have b0 := (KW.out.below BX.out).cell (i := 0) rfl
          have v0 := cell_below BX.out V.out.1
          have v1 := cell_below BX.out V.out.2.1
          have LX := Lib.hid ((LR.out.below B2.out).more B2.out.size)
          have CH := Lib.hid (fun (W : World) (h : Rd W W.heap.size (some ⟨gl, 0, none⟩) (Strs.strs l)) => (by have := hasL (some ⟨gl, 0, none⟩) p cl l dn W HP.out (by omega) h; rw [HA1.out] at this; exact this : Calls Tryz.prog 14 #[.slice (some ⟨gl, 0, none⟩) p cl, .string dn] W (fun e w' => e = .returned (.bool rb) ∧ Below W.heap.size W w')))
          have h2 := HA2.out
          clear HA1 HA2 CK BX KW HW
          by_cases c3 : dk = 3
          · have ceq : (dk == 3) = true := by simp [c3]
            have c9 := Lib.hid c3
            clear c3 h2
            go_upto_region 11 with fail
            refine wp_region_noPanic ?_
            refine wp_region_held_drew (S := (fun w' => w'.cell? ⟨bx, 0, none⟩ = some (.slice (some ⟨bD, oD, none⟩) q0 c0) ∧ w'.cell? ⟨bD, oD + k * 8, none⟩ = some (.string dn) ∧ w'.cell? ⟨bD, oD + k * 8 + 1, none⟩ = some (.int .i64 dk) ∧ Below wc.heap.size wc w')) (by kernel_rfl) ?_ (fun hH => ?_)
            · exact ⟨b0, v0, v1, (Below.refl _ _).drew⟩
            clear b0 v0 v1
            refine wpAnyH_take (i := 0) (oi := { dst := some 45, op := _, type := _, pos := _, after := _, guard := _ }) (v := ?_) rfl (by kernel_rfl) (by kernel_rfl) (by kernel_rfl) (fun _ _ _ h => h) (Or.inl ⟨by rfl, ?_⟩) hH ?_
            rotate_left 1
            · intro W hSw
              (try dsimp only at hSw)
              go_simp
              (try with_reducible rfl)
            try simp only [Act.put, List.setIfInBounds_toArray, List.set_cons_zero, List.set_cons_succ]
            refine wpAnyH_take (i := 1) (oi := { dst := some 46, op := _, type := _, pos := _, after := _, guard := _ }) (v := ?_) rfl (by kernel_rfl) (by kernel_rfl) (by kernel_rfl) (fun _ _ _ h => h) (Or.inl ⟨by rfl, ?_⟩) hH ?_
            rotate_left 1
            · intro W hSw
              (try dsimp only at hSw)
              go_simp
              (try with_reducible rfl)
            try simp only [Act.put, List.setIfInBounds_toArray, List.set_cons_zero, List.set_cons_succ]
            refine wpAnyH_take (i := 2) (oi := { dst := some 47, op := _, type := _, pos := _, after := _, guard := _ }) (v := ?_) rfl (by kernel_rfl) (by kernel_rfl) (by kernel_rfl) (fun _ _ _ h => h) (Or.inl ⟨by rfl, ?_⟩) hH ?_
            rotate_left 1
            · intro W hSw
              (try dsimp only at hSw)
              go_simp
              (try with_reducible rfl)
            try simp only [Act.put, List.setIfInBounds_toArray, List.set_cons_zero, List.set_cons_succ]
            refine wpAnyH_take (i := 3) (oi := { dst := some 48, op := _, type := _, pos := _, after := _, guard := _ }) (v := ?_) rfl (by kernel_rfl) (by kernel_rfl) (by kernel_rfl) (fun _ _ _ h => h) (Or.inl ⟨by rfl, ?_⟩) hH ?_
            rotate_left 1
            · intro W hSw
              (try dsimp only at hSw)
              go_simp
              (try with_reducible rfl)
            try simp only [Act.put, List.setIfInBounds_toArray, List.set_cons_zero, List.set_cons_succ]
            refine wpAnyH_take (i := 8) (oi := { dst := some 53, op := _, type := _, pos := _, after := _, guard := _ }) (v := ?_) rfl (by kernel_rfl) (by kernel_rfl) (by kernel_rfl) (fun _ _ _ h => h) (Or.inl ⟨by rfl, ?_⟩) hH ?_
            rotate_left 1
            · intro W hSw
              (try dsimp only at hSw)
              go_simp
              (try with_reducible rfl)
            try simp only [Act.put, List.setIfInBounds_toArray, List.set_cons_zero, List.set_cons_succ]
            refine wpAnyH_take (i := 9) (oi := { dst := some 54, op := _, type := _, pos := _, after := _, guard := _ }) (v := ?_) rfl (by kernel_rfl) (by kernel_rfl) (by kernel_rfl) (fun _ _ _ h => h) (Or.inl ⟨by rfl, ?_⟩) hH ?_
            rotate_left 1
            · intro W hSw
              (try dsimp only at hSw)
              go_simp
              (try with_reducible rfl)
            try simp only [Act.put, List.setIfInBounds_toArray, List.set_cons_zero, List.set_cons_succ]
            refine wpAnyH_take (i := 10) (oi := { dst := some 55, op := _, type := _, pos := _, after := _, guard := _ }) (v := ?_) rfl (by kernel_rfl) (by kernel_rfl) (by kernel_rfl) (fun _ _ _ h => h) (Or.inl ⟨by rfl, ?_⟩) hH ?_
            rotate_left 1
            · intro W hSw
              (try dsimp only at hSw)
              go_simp
              (try with_reducible rfl)
            try simp only [Act.put, List.setIfInBounds_toArray, List.set_cons_zero, List.set_cons_succ]
            refine wpAnyH_take (i := 4) (oi := { dst := some 49, op := _, type := _, pos := _, after := _, guard := _ }) (v := ?_) rfl (by kernel_rfl) (by kernel_rfl) (by kernel_rfl) (fun _ _ _ h => h) (Or.inl ⟨by rfl, ?_⟩) hH ?_
            rotate_left 1
            · intro W hSw
              (try dsimp only at hSw)
              go_simp
              (try with_reducible rfl)
            try simp only [Act.put, List.setIfInBounds_toArray, List.set_cons_zero, List.set_cons_succ]
            refine wpAnyH_take (i := 5) (oi := { dst := some 50, op := _, type := _, pos := _, after := _, guard := _ }) (v := ?_) rfl (by kernel_rfl) (by kernel_rfl) (by kernel_rfl) (fun _ _ _ h => h) (Or.inl ⟨by rfl, ?_⟩) hH ?_
            rotate_left 1
            · intro W hSw
              (try dsimp only at hSw)
              go_simp
              (try with_reducible rfl)
            try simp only [Act.put, List.setIfInBounds_toArray, List.set_cons_zero, List.set_cons_succ]
            refine wpAnyH_take (i := 6) (oi := { dst := some 51, op := _, type := _, pos := _, after := _, guard := _ }) (v := ?_) rfl (by kernel_rfl) (by kernel_rfl) (by kernel_rfl) (fun _ _ _ h => h) (Or.inl ⟨by rfl, ?_⟩) hH ?_
            rotate_left 1
            · intro W hSw
              (try dsimp only at hSw)
              go_simp
              (try with_reducible rfl)
            try simp only [Act.put, List.setIfInBounds_toArray, List.set_cons_zero, List.set_cons_succ]
            refine wpAnyH_take (i := 11) (oi := { dst := some 56, op := _, type := _, pos := _, after := _, guard := _ }) (v := ?_) rfl (by kernel_rfl) (by kernel_rfl) (by kernel_rfl) (fun _ _ _ h => h) (Or.inl ⟨by rfl, ?_⟩) hH ?_
            rotate_left 1
            · intro W hSw
              (try dsimp only at hSw)
              go_simp
              (try with_reducible rfl)
            try simp only [Act.put, List.setIfInBounds_toArray, List.set_cons_zero, List.set_cons_succ]
            refine wpAnyH_take (i := 12) (oi := { dst := some 57, op := _, type := _, pos := _, after := _, guard := _ }) (v := ?_) rfl (by kernel_rfl) (by kernel_rfl) (by kernel_rfl) (fun _ _ _ h => h) (Or.inl ⟨by rfl, ?_⟩) hH ?_
            rotate_left 1
            · intro W hSw
              (try dsimp only at hSw)
              go_simp
              (try with_reducible rfl)
            try simp only [Act.put, List.setIfInBounds_toArray, List.set_cons_zero, List.set_cons_succ]
            refine wpAnyH_take (i := 13) (oi := { dst := some 58, op := _, type := _, pos := _, after := _, guard := _ }) (v := ?_) rfl (by kernel_rfl) (by kernel_rfl) (by kernel_rfl) (fun _ _ _ h => h) (Or.inl ⟨by rfl, ?_⟩) hH ?_
            rotate_left 1
            · intro W hSw
              (try dsimp only at hSw)
              go_simp
              (try with_reducible rfl)
            try simp only [Act.put, List.setIfInBounds_toArray, List.set_cons_zero, List.set_cons_succ]
            refine wpAnyH_take (i := 14) (oi := { dst := some 59, op := _, type := _, pos := _, after := _, guard := _ }) (v := ?_) rfl (by kernel_rfl) (by kernel_rfl) (by kernel_rfl) (fun _ _ _ h => h) (Or.inl ⟨by rfl, ?_⟩) hH ?_
            rotate_left 1
            · intro W hSw
              (try dsimp only at hSw)
              go_simp
              (try with_reducible rfl)
            try simp only [Act.put, List.setIfInBounds_toArray, List.set_cons_zero, List.set_cons_succ]
            refine wpAnyH_ready (rs := [7]) (by kernel_rfl) (by simp) (AllReadyH.cons rfl (fun K hK => ?_) AllReadyH.nil)
            go_simp
            go_at_call 14; ((with_reducible refine (CH.out _ ((LX.out.below hH.2.2.2).more (Below.size hH.2.2.2))).mono ?_); rintro e r1 ⟨rfl, hb⟩); go_wp2_with fail
            refine hK.out _ _ ?_ (fun hG => ?_)
            · exact ⟨cell_below hb hH.1, cell_below hb hH.2.1, cell_below hb hH.2.2.1, hH.2.2.2.trans (hb.mono hH.2.2.2.size)⟩
            replace hH := hG
            clear hK K hG
            try simp only [Act.put, List.setIfInBounds_toArray, List.set_cons_zero, List.set_cons_succ]
            refine wpAnyH_take (i := 15) (oi := { dst := some 60, op := _, type := _, pos := _, after := _, guard := _ }) (v := ?_) rfl (by kernel_rfl) (by kernel_rfl) (by kernel_rfl) (fun _ _ _ h => h) (Or.inl ⟨by rfl, ?_⟩) hH ?_
            rotate_left 1
            · intro W hSw
              (try dsimp only at hSw)
              go_simp
              (try with_reducible rfl)
            try simp only [Act.put, List.setIfInBounds_toArray, List.set_cons_zero, List.set_cons_succ]
            refine wpAnyH_take (i := 16) (oi := { dst := some 61, op := _, type := _, pos := _, after := _, guard := _ }) (v := ?_) rfl (by kernel_rfl) (by kernel_rfl) (by kernel_rfl) (fun _ _ _ h => h) (Or.inl ⟨by rfl, ?_⟩) hH ?_
            rotate_left 1
            · intro W hSw
              (try dsimp only at hSw)
              go_simp
              (try with_reducible rfl)
            try simp only [Act.put, List.setIfInBounds_toArray, List.set_cons_zero, List.set_cons_succ]
            refine wpAnyH_take (i := 17) (oi := { dst := some 62, op := _, type := _, pos := _, after := _, guard := _ }) (v := ?_) rfl (by kernel_rfl) (by kernel_rfl) (by kernel_rfl) (fun _ _ _ h => h) (Or.inl ⟨by rfl, ?_⟩) hH ?_
            rotate_left 1
            · intro W hSw
              (try dsimp only at hSw)
              go_simp
              (try with_reducible rfl)
            try simp only [Act.put, List.setIfInBounds_toArray, List.set_cons_zero, List.set_cons_succ]
            refine wpAnyH_take (i := 18) (oi := { dst := some 63, op := _, type := _, pos := _, after := _, guard := _ }) (v := ?_) rfl (by kernel_rfl) (by kernel_rfl) (by kernel_rfl) (fun _ _ _ h => h) (Or.inl ⟨by rfl, ?_⟩) hH ?_
            rotate_left 1
            · intro W hSw
              (try dsimp only at hSw)
              go_simp
              (try with_reducible rfl)
            try simp only [Act.put, List.setIfInBounds_toArray, List.set_cons_zero, List.set_cons_succ]
            refine wpAnyH_done (by kernel_rfl) ?_ _
            refine NoPanic.normal ?_
            have B3 := Lib.hid (B2.out.trans (Below.mono hH.2.2.2 B2.out.size))
            clear hH hb
            go_wp2_with fail
            go_roundw
            case rel => first | exact ⟨k + 1, by omega, by go_num, B3⟩ | ((repeat apply Exists.intro); exact ⟨⟨k + 1, by omega, by go_num, B3⟩, rfl⟩)
            case measure => simp [intOf]; omega
          · have ceq : (dk == 3) = false := by simp [c3]
            obtain rfl : rb = false := by rw [← h2, decide_eq_false c3, Bool.false_and]
            clear c3 h2
            go_upto_region 11 with fail
            refine wp_region_noPanic ?_
            refine wp_region_held_drew (S := (fun w' => w'.cell? ⟨bx, 0, none⟩ = some (.slice (some ⟨bD, oD, none⟩) q0 c0) ∧ w'.cell? ⟨bD, oD + k * 8, none⟩ = some (.string dn) ∧ w'.cell? ⟨bD, oD + k * 8 + 1, none⟩ = some (.int .i64 dk) ∧ Below wc.heap.size wc w')) (by kernel_rfl) ?_ (fun hH => ?_)
            · exact ⟨b0, v0, v1, (Below.refl _ _).drew⟩
            clear b0 v0 v1
            refine wpAnyH_take (i := 0) (oi := { dst := some 45, op := _, type := _, pos := _, after := _, guard := _ }) (v := ?_) rfl (by kernel_rfl) (by kernel_rfl) (by kernel_rfl) (fun _ _ _ h => h) (Or.inl ⟨by rfl, ?_⟩) hH ?_
            rotate_left 1
            · intro W hSw
              (try dsimp only at hSw)
              go_simp
              (try with_reducible rfl)
            try simp only [Act.put, List.setIfInBounds_toArray, List.set_cons_zero, List.set_cons_succ]
            refine wpAnyH_take (i := 1) (oi := { dst := some 46, op := _, type := _, pos := _, after := _, guard := _ }) (v := ?_) rfl (by kernel_rfl) (by kernel_rfl) (by kernel_rfl) (fun _ _ _ h => h) (Or.inl ⟨by rfl, ?_⟩) hH ?_
            rotate_left 1
            · intro W hSw
              (try dsimp only at hSw)
              go_simp
              (try with_reducible rfl)
            try simp only [Act.put, List.setIfInBounds_toArray, List.set_cons_zero, List.set_cons_succ]
            refine wpAnyH_take (i := 2) (oi := { dst := some 47, op := _, type := _, pos := _, after := _, guard := _ }) (v := ?_) rfl (by kernel_rfl) (by kernel_rfl) (by kernel_rfl) (fun _ _ _ h => h) (Or.inl ⟨by rfl, ?_⟩) hH ?_
            rotate_left 1
            · intro W hSw
              (try dsimp only at hSw)
              go_simp
              (try with_reducible rfl)
            try simp only [Act.put, List.setIfInBounds_toArray, List.set_cons_zero, List.set_cons_succ]
            refine wpAnyH_take (i := 3) (oi := { dst := some 48, op := _, type := _, pos := _, after := _, guard := _ }) (v := ?_) rfl (by kernel_rfl) (by kernel_rfl) (by kernel_rfl) (fun _ _ _ h => h) (Or.inl ⟨by rfl, ?_⟩) hH ?_
            rotate_left 1
            · intro W hSw
              (try dsimp only at hSw)
              go_simp
              (try with_reducible rfl)
            try simp only [Act.put, List.setIfInBounds_toArray, List.set_cons_zero, List.set_cons_succ]
            refine wpAnyH_take (i := 8) (oi := { dst := some 53, op := _, type := _, pos := _, after := _, guard := _ }) (v := ?_) rfl (by kernel_rfl) (by kernel_rfl) (by kernel_rfl) (fun _ _ _ h => h) (Or.inl ⟨by rfl, ?_⟩) hH ?_
            rotate_left 1
            · intro W hSw
              (try dsimp only at hSw)
              go_simp
              (try with_reducible rfl)
            try simp only [Act.put, List.setIfInBounds_toArray, List.set_cons_zero, List.set_cons_succ]
            refine wpAnyH_take (i := 9) (oi := { dst := some 54, op := _, type := _, pos := _, after := _, guard := _ }) (v := ?_) rfl (by kernel_rfl) (by kernel_rfl) (by kernel_rfl) (fun _ _ _ h => h) (Or.inl ⟨by rfl, ?_⟩) hH ?_
            rotate_left 1
            · intro W hSw
              (try dsimp only at hSw)
              go_simp
              (try with_reducible rfl)
            try simp only [Act.put, List.setIfInBounds_toArray, List.set_cons_zero, List.set_cons_succ]
            refine wpAnyH_take (i := 10) (oi := { dst := some 55, op := _, type := _, pos := _, after := _, guard := _ }) (v := ?_) rfl (by kernel_rfl) (by kernel_rfl) (by kernel_rfl) (fun _ _ _ h => h) (Or.inl ⟨by rfl, ?_⟩) hH ?_
            rotate_left 1
            · intro W hSw
              (try dsimp only at hSw)
              go_simp
              (try with_reducible rfl)
            try simp only [Act.put, List.setIfInBounds_toArray, List.set_cons_zero, List.set_cons_succ]
            refine wpAnyH_take (i := 4) (oi := { dst := some 49, op := _, type := _, pos := _, after := _, guard := _ }) (v := ?_) rfl (by kernel_rfl) (by kernel_rfl) (by kernel_rfl) (fun _ _ _ h => h) (Or.inl ⟨by rfl, ?_⟩) hH ?_
            rotate_left 1
            · intro W hSw
              (try dsimp only at hSw)
              go_simp
              (try with_reducible rfl)
            try simp only [Act.put, List.setIfInBounds_toArray, List.set_cons_zero, List.set_cons_succ]
            refine wpAnyH_take (i := 5) (oi := { dst := some 50, op := _, type := _, pos := _, after := _, guard := _ }) (v := ?_) rfl (by kernel_rfl) (by kernel_rfl) (by kernel_rfl) (fun _ _ _ h => h) (Or.inl ⟨by rfl, ?_⟩) hH ?_
            rotate_left 1
            · intro W hSw
              (try dsimp only at hSw)
              go_simp
              (try with_reducible rfl)
            try simp only [Act.put, List.setIfInBounds_toArray, List.set_cons_zero, List.set_cons_succ]
            refine wpAnyH_take (i := 6) (oi := { dst := some 51, op := _, type := _, pos := _, after := _, guard := _ }) (v := ?_) rfl (by kernel_rfl) (by kernel_rfl) (by kernel_rfl) (fun _ _ _ h => h) (Or.inl ⟨by rfl, ?_⟩) hH ?_
            rotate_left 1
            · intro W hSw
              (try dsimp only at hSw)
              go_simp
              (try with_reducible rfl)
            try simp only [Act.put, List.setIfInBounds_toArray, List.set_cons_zero, List.set_cons_succ]
            refine wpAnyH_take (i := 11) (oi := { dst := some 56, op := _, type := _, pos := _, after := _, guard := _ }) (v := ?_) rfl (by kernel_rfl) (by kernel_rfl) (by kernel_rfl) (fun _ _ _ h => h) (Or.inl ⟨by rfl, ?_⟩) hH ?_
            rotate_left 1
            · intro W hSw
              (try dsimp only at hSw)
              go_simp
              (try with_reducible rfl)
            try simp only [Act.put, List.setIfInBounds_toArray, List.set_cons_zero, List.set_cons_succ]
            refine wpAnyH_take (i := 12) (oi := { dst := some 57, op := _, type := _, pos := _, after := _, guard := _ }) (v := ?_) rfl (by kernel_rfl) (by kernel_rfl) (by kernel_rfl) (fun _ _ _ h => h) (Or.inl ⟨by rfl, ?_⟩) hH ?_
            rotate_left 1
            · intro W hSw
              (try dsimp only at hSw)
              go_simp
              (try with_reducible rfl)
            try simp only [Act.put, List.setIfInBounds_toArray, List.set_cons_zero, List.set_cons_succ]
            refine wpAnyH_take (i := 13) (oi := { dst := some 58, op := _, type := _, pos := _, after := _, guard := _ }) (v := ?_) rfl (by kernel_rfl) (by kernel_rfl) (by kernel_rfl) (fun _ _ _ h => h) (Or.inl ⟨by rfl, ?_⟩) hH ?_
            rotate_left 1
            · intro W hSw
              (try dsimp only at hSw)
              go_simp
              (try with_reducible rfl)
            try simp only [Act.put, List.setIfInBounds_toArray, List.set_cons_zero, List.set_cons_succ]
            refine wpAnyH_take (i := 14) (oi := { dst := some 59, op := _, type := _, pos := _, after := _, guard := _ }) (v := ?_) rfl (by kernel_rfl) (by kernel_rfl) (by kernel_rfl) (fun _ _ _ h => h) (Or.inl ⟨by rfl, ?_⟩) hH ?_
            rotate_left 1
            · intro W hSw
              (try dsimp only at hSw)
              go_simp
              (try with_reducible rfl)
            try simp only [Act.put, List.setIfInBounds_toArray, List.set_cons_zero, List.set_cons_succ]
            refine wpAnyH_ready (rs := [7]) (by kernel_rfl) (by simp) (AllReadyH.cons rfl (fun K hK => ?_) AllReadyH.nil)
            go_simp
            go_at_call 14; ((with_reducible refine (CH.out _ ((LX.out.below hH.2.2.2).more (Below.size hH.2.2.2))).mono ?_); rintro e r1 ⟨rfl, hb⟩); go_wp2_with fail
            refine hK.out _ _ ?_ (fun hG => ?_)
            · exact ⟨cell_below hb hH.1, cell_below hb hH.2.1, cell_below hb hH.2.2.1, hH.2.2.2.trans (hb.mono hH.2.2.2.size)⟩
            replace hH := hG
            clear hK K hG
            try simp only [Act.put, List.setIfInBounds_toArray, List.set_cons_zero, List.set_cons_succ]
            refine wpAnyH_take (i := 15) (oi := { dst := some 60, op := _, type := _, pos := _, after := _, guard := _ }) (v := ?_) rfl (by kernel_rfl) (by kernel_rfl) (by kernel_rfl) (fun _ _ _ h => h) (Or.inl ⟨by rfl, ?_⟩) hH ?_
            rotate_left 1
            · intro W hSw
              (try dsimp only at hSw)
              go_simp
              (try with_reducible rfl)
            try simp only [Act.put, List.setIfInBounds_toArray, List.set_cons_zero, List.set_cons_succ]
            refine wpAnyH_take (i := 16) (oi := { dst := some 61, op := _, type := _, pos := _, after := _, guard := _ }) (v := undef) rfl (by kernel_rfl) (by kernel_rfl) (by kernel_rfl) (fun _ _ _ h => h) (Or.inr ⟨by simp [Region.wanted, yielded, hu, ceq], rfl⟩) hH ?_
            try simp only [Act.put, List.setIfInBounds_toArray, List.set_cons_zero, List.set_cons_succ]
            refine wpAnyH_take (i := 17) (oi := { dst := some 62, op := _, type := _, pos := _, after := _, guard := _ }) (v := ?_) rfl (by kernel_rfl) (by kernel_rfl) (by kernel_rfl) (fun _ _ _ h => h) (Or.inl ⟨by rfl, ?_⟩) hH ?_
            rotate_left 1
            · intro W hSw
              (try dsimp only at hSw)
              go_simp
              (try with_reducible rfl)
            try simp only [Act.put, List.setIfInBounds_toArray, List.set_cons_zero, List.set_cons_succ]
            refine wpAnyH_take (i := 18) (oi := { dst := some 63, op := _, type := _, pos := _, after := _, guard := _ }) (v := ?_) rfl (by kernel_rfl) (by kernel_rfl) (by kernel_rfl) (fun _ _ _ h => h) (Or.inl ⟨by rfl, ?_⟩) hH ?_
            rotate_left 1
            · intro W hSw
              (try dsimp only at hSw)
              go_simp
              (try with_reducible rfl)
            try simp only [Act.put, List.setIfInBounds_toArray, List.set_cons_zero, List.set_cons_succ]
            refine wpAnyH_done (by kernel_rfl) ?_ _
            refine NoPanic.normal ?_
            have B3 := Lib.hid (B2.out.trans (Below.mono hH.2.2.2 B2.out.size))
            clear hH hb
            go_wp2_with fail
            go_roundw
            case rel => first | exact ⟨k + 1, by omega, by go_num, B3⟩ | ((repeat apply Exists.intro); exact ⟨⟨k + 1, by omega, by go_num, B3⟩, rfl⟩)
            case measure => simp [intOf]; omega
      · obtain rfl : k = q0 := by omega
        go_wp2_with fail
        go_returns
        exact ⟨rfl, BBW.out⟩
  · have hd : decide (4096 < n) = true := decide_eq_true (by omega)
    clear hn hm hr
    go_enter Tryz.func4, Tryz.ntmps4
    go_wp2_with (go_at_call 5; go_enter Tryz.func5, Tryz.ntmps5)
    go_returns
    exact ⟨rfl, Below.refl _ _⟩

set_option maxRecDepth 100000 in
theorem lifted (os : Os) (started : os.Started) (H : Type) (enc : TypeId × Value → H) :
    ReturnsInHanded {} Tryz.checked os 4 .any (Rows.fnLitSpec.pre6 enc Tryz.prog Tryz.f4 Rows.fnLitRow.domain false) (Rows.fnLitSpec.post enc Tryz.prog Tryz.f4 false true false false) := by
  refine returnsInHanded_of_change (C := Tryz.checked) own started (by kernel_rfl) Tryz.func4
    (ChangeSpec.witness6 (enc := enc) (C := Tryz.checked) false ⟨#[], #[.slice none 0 0], []⟩ 8 (by kernel_rfl) (by kernel_rfl) (by kernel_rfl) (by kernel_rfl)) ?_
  intro W base args ds gs before hval0 hW hcnd hsz
  have hval : ∀ (j : Nat) t v, Tryz.f4.params[j]? = some t → args[j]? = some v → Value.okWide Tryz.prog W .any base t v := hval0
  have hW' := hW
  obtain ⟨p, q, hA0, hV, rfl, hfz, hnd⟩ := hW
  have hA1 := hA0
  have hA : DataW.TrodAll enc Tryz.prog W 0 (fun _ => true) true Tryz.f4.params.toList args.toList ds p := hA0
  rw [Tryz.params4] at hA hval
  obtain ⟨v0, vs0, d0, ds0, p0, q0, hargs, rfl, rfl, h0, r0⟩ := trodAll_cons hA
  obtain ⟨rfl, rfl, rfl⟩ := trodAll_nil r0
  obtain rfl : args = #[v0] := by cases args; simp_all
  obtain ⟨rfl, rfl⟩ := trodVars_none hV
  obtain ⟨A0, n0, c0, a0, rfl, l0, m0, g0⟩ := RampFn.take_bytes Tryz.underlying22 Tryz.underlying5 (by kernel_rfl) (hval 0 22 v0 rfl rfl) h0
  clear hA0 hval0
  rw [List.append_nil] at hW'
  refine (walk A0 n0 c0 a0 l0 m0 W g0).mono fun e W' ⟨he, hb⟩ => ?_
  subst he
  exact ⟨_, rfl, post_law rfl hW' hA1 laidOut (by rw [Tryz.params4]; exact of_decide_eq_true (by kernel_rfl)) 4 (by kernel_rfl) Tryz.underlying4 rfl hb⟩

theorem over : Rows.fnLitRow.holds Tryz.pinned (OpenSpec.ofChange Rows.fnLitSpec) :=
  OpenClaim.holds_of_wide 4 Tryz.f4 rfl rfl rfl rfl rfl rfl rfl ⟨rfl, rfl, rfl, rfl, rfl⟩ rfl rfl rfl rfl rfl (by kernel_rfl) Tryz.func4 (by kernel_rfl)
    (of_decide_eq_true (by kernel_rfl)) (by unfold Func.isWrapper; first | (rw [if_pos (by decide +kernel)]; kernel_rfl) | (rw [if_neg (by decide +kernel)]; exact ⟨rfl, rfl⟩))
    (fun os started H enc _ => lifted os started H enc)

/-- The statement. -/
theorem proved : Rows.FnLitSaid :=
  over
#print axioms proved
end Go.Proofs.YtdkihpnckkfneaaGreat.fnLit
