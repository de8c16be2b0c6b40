/- The program's parts of a list of devices. -/
import Derived.Test.YtokncfhpmjohdabGreatM7
import Derived.Stop.Asserts
import Derived.Deep.RegionHeld3
set_option linter.unusedVariables false
set_option linter.unusedSimpArgs false
namespace Go.Proofs.YtokncfhpmjohdabGreat.Pa
open Go.RowKit Go.ChangeShapes Go.WideShapes Go.WideElems Go.Deep Go.Proofs.YtokncfhpmjohdabGreat.Mem Go.Proofs.YtokncfhpmjohdabGreat.Rw Go.Proofs.YtokncfhpmjohdabGreat.Pw Go.Proofs.YtokncfhpmjohdabGreat.P2 Go.Proofs.YtokncfhpmjohdabGreat.Dd Go.Proofs.YtokncfhpmjohdabGreat.Dv Go.Proofs.YtokncfhpmjohdabGreat.Dl Go.Proofs.YtokncfhpmjohdabGreat.Ds Go.Proofs.YtokncfhpmjohdabGreat.Fd Go.Proofs.YtokncfhpmjohdabGreat.Ch Go.Proofs.YtokncfhpmjohdabGreat.Hn Go.Proofs.YtokncfhpmjohdabGreat.Po
set_option linter.unusedVariables false
set_option linter.unusedSimpArgs false
open Go.Proofs.YtokncfhpmjohdabGreat.Ho

/-- The part of a device, by the channels of these lines. -/
def ptM (M : List (ByteArray × Nat)) (d : D) : Value := pt d.nm d.kd d.ln d.x d.y d.hd d.tl d.ms ((lk M d.ln).getD 0)
/-- What the lines are behind these devices. -/
structure Made (zs : List D) (M M' : List (ByteArray × Nat)) : Prop where
  all : ∀ d ∈ zs, d.kd = 2 ∨ d.kd = 3 → lk M' d.ln ≠ none
  old : ∀ q v, lk M q = some v → lk M' q = some v
  new : ∀ q, (∀ d ∈ zs, d.kd = 2 ∨ d.kd = 3 → q ≠ d.ln) → lk M' q = lk M q
theorem Made.nil (M : List (ByteArray × Nat)) : Made [] M M := ⟨fun _ h => (by cases h), fun _ _ h => h, fun _ _ => rfl⟩
theorem pt_eq {n : ByteArray} {k : Int} {l : ByteArray} {x y h t m : Int} {c c' : Nat} (e : k = 2 ∨ k = 3 → c = c') : pt n k l x y h t m c = pt n k l x y h t m c' := by
  unfold pt
  by_cases k1 : k = 1
  · simp [k1]
  by_cases k2 : k = 2
  · rw [e (Or.inl k2)]
  by_cases k3 : k = 3
  · rw [e (Or.inr k3)]
  · simp [k1, k2, k3]
theorem ptM_old {M M' : List (ByteArray × Nat)} {d : D} (h : d.kd = 2 ∨ d.kd = 3 → lk M d.ln ≠ none) (ho : ∀ q v, lk M q = some v → lk M' q = some v) : ptM M' d = ptM M d := by
  unfold ptM
  refine pt_eq fun e => ?_
  cases hm : lk M d.ln with
  | none => exact absurd hm (h e)
  | some v => rw [ho _ _ hm]
theorem Made.snoc {zs : List D} {d : D} {M M1 M2 : List (ByteArray × Nat)} {c : Nat} (h : Made zs M M1) (here : d.kd = 2 ∨ d.kd = 3 → lk M2 d.ln = some c) (old : ∀ q v, lk M1 q = some v → lk M2 q = some v)
    (new : ∀ q, (d.kd = 2 ∨ d.kd = 3 → q ≠ d.ln) → lk M2 q = lk M1 q) : Made (zs ++ [d]) M M2 := by
  refine ⟨fun e he hk => ?_, fun q v hq => old q v (h.old q v hq), fun q hq => ?_⟩
  · rcases List.mem_append.1 he with he | he
    · cases hm : lk M1 e.ln with
      | none => exact absurd hm (h.all e he hk)
      | some v => rw [old _ _ hm]; simp
    · obtain rfl := List.mem_singleton.1 he
      rw [here hk]; simp
  · rw [new q (fun hk => hq d (by simp) hk)]
    exact h.new q (fun e he hk => hq e (by simp [he]) hk)
theorem gthen {a b c : World} {r r' : Option Nat} (h : a.grownBy b r) (k : b.grownBy c r') (hr : ∀ j, r' = some j → a.heap.size ≤ j ∨ r = some j) : a.grownBy c r :=
  ⟨k.os.trans h.os, k.tape.trans h.tape, k.output.trans h.output, Nat.le_trans h.size k.size, fun i hi hne => (k.block i (Nat.lt_of_lt_of_le hi h.size) (fun e => (hr i e.symm).elim (fun q => by omega) (fun q => hne q.symm))).trans (h.block i hi hne)⟩

theorem pt_form (n : ByteArray) (k : Int) (l : ByteArray) (x y h t m : Int) (c : Nat) : (∃ T u, pt n k l x y h t m c = .iface T u) ∨ pt n k l x y h t m c = .nilIface := by
  unfold pt
  split
  · exact Or.inl ⟨_, _, rfl⟩
  · split
    · exact Or.inl ⟨_, _, rfl⟩
    · split
      · exact Or.inl ⟨_, _, rfl⟩
      · exact Or.inr rfl
theorem infoP : (Tryz.prog.info? 160).map (fun i => (i.zero, i.size, i.bytes)) = some (some .nilIface, 1, 16) := by kernel_rfl
theorem made_nil (n : Nat) : (madeCells #[Value.nilIface] (n * 1)).toList = List.replicate n .nilIface := by
  apply List.ext_getElem?
  intro j
  rw [Array.getElem?_toList, List.getElem?_replicate]
  simp only [madeCells]
  by_cases h : j < n
  · simp [h, Nat.mod_one]
  · simp [h]

/-- What is known behind partsOf. -/
structure Parts (w : World) (b n : Nat) (zs : List D) (M : List (ByteArray × Nat)) (g : Nat) (M' : List (ByteArray × Nat)) (w' : World) : Prop where
  new : w.heap.size ≤ g
  row : w'.ownsRow w.heap.size 160 1 (.slice (some ⟨g, 0, none⟩) n n) n (zs.map (ptM M'))
  made : Made zs M M'
  ls : Ls w' b M'
  gd : Gd w' M'
  grown : w.grownBy w' (some b)

set_option maxHeartbeats 4000000 in
theorem partsOf (A : Option Addr) (n0 cp b0 : Nat) (zs : List D) (M : List (ByteArray × Nat)) (H : Nat) (w : World) (hn : zs.length = n0) (hb : n0 ≤ 1048576) (hH : H ≤ w.heap.size) (hr : Rd w H A (dls zs)) (hrb : A.map (·.block) ≠ some b0 ∨ dls zs = []) (hL : Ls w b0 M) (hG : Gd w M) :
    Calls Tryz.prog 136 #[.map (some b0), .slice A n0 cp] w fun e w' => ∃ g M', e = .returned (.slice (some ⟨g, 0, none⟩) n0 n0) ∧ Parts w b0 n0 zs M g M' w' := by
  obtain ⟨i0, hi, hz0, hz1, hz2⟩ := info_of infoP
  have hbl := hL.lt
  have HR := Lib.hid hr
  have HN := Lib.hid hn
  have HX := Lib.hid hrb
  have HH := Lib.hid hH
  have H0 := Lib.hid (And.intro hL hG)
  clear hr hn hrb hL hG hH
  go_enter Tryz.func136, Tryz.ntmps136
  go_wp2_with (at_make; refine wpList_make_full _ rfl _ _ 165 rfl w.heap.size 160 i0 .nilIface 1 Tryz.underlying165 hi hz0 hz1 .i64 .i64 n0 n0 n0 rfl rfl rfl rfl (by rw [hz2]; omega) (by unfold maxLen; omega) (Nat.le_refl _) ?_; intro w1 hown hgrow; clear hi hz0 hz1 hz2)
  have G0 := Lib.hid (show w.grownBy w1 (some b0) from gthen (World.grownBy.refl _ _) hgrow (fun j hj => by cases hj))
  have R0 := Lib.hid (show w1.ownsRow w.heap.size 160 1 (.slice (some ⟨w.heap.size, 0, none⟩) n0 n0) n0 (mixed (zs.map (ptM M)) (List.replicate n0 .nilIface) 0) by
    rw [mixed_zero, ← made_nil]; exact hown)
  have L1 := Lib.hid (H0.out.1.grown hgrow (by simp))
  have D1 := Lib.hid (H0.out.2.more hgrow.size)
  clear hown hgrow
  go_loopw [13] (fun i wr => ∃ (k : Nat) (Mk : List (ByteArray × Nat)), k ≤ n0 ∧ i = .int .i64 k ∧ Hid (wr.ownsRow w.heap.size 160 1 (.slice (some ⟨w.heap.size, 0, none⟩) n0 n0) n0 (mixed (zs.map (ptM Mk)) (List.replicate n0 .nilIface) k)) ∧ Hid (Ls wr b0 Mk) ∧ Hid (Gd wr Mk) ∧ Hid (Made (zs.take k) M Mk) ∧ Hid (w.grownBy wr (some b0))) (fun i _ => n0 - (intOf i).toNat)
  case atStart => exact ⟨0, M, Nat.zero_le _, rfl, R0, L1, D1, Lib.hid (by rw [List.take_zero]; exact Made.nil M), G0⟩
  case round =>
    obtain ⟨k, Mk, hk, rfl, RK, LK, DK, MK, GK⟩ := hrel
    by_cases hlt : k < n0
    · obtain ⟨z, hz⟩ : ∃ z, zs[k]? = some z := ⟨_, List.getElem?_eq_getElem (by rw [HN.out]; exact hlt)⟩
      have hzz := hz
      have hRk : Rd wr H A (dls zs) := by
        rcases HR.out with h | ⟨b', o', e, hb', hx⟩
        · exact Or.inl h
        · refine Or.inr ⟨b', o', e, hb', fun j v hv => GK.out.cell (hx j v hv) (fun c => ?_)⟩
          rcases HX.out with h1 | h1
          · apply h1; rw [e]; exact c
          · rw [h1] at hv; cases hv
      have tk : zs.take (k + 1) = zs.take k ++ [z] := by obtain ⟨hk', rfl⟩ := List.getElem?_eq_some_iff.1 hz; exact List.take_succ_eq_append_getElem hk'
      obtain ⟨n, q, l, x, y, h, t, m⟩ := z
      obtain ⟨b1, o1, eA, hbl2, hcell⟩ := (hRk).get (k := k * 8) (by rw [dls_len, HN.out]; omega)
      obtain ⟨z0, z1, z2, z3, z4, z5, z6, z7⟩ := dls_get hz
      have c0 := hcell (k * 8) _ z0
      have c1 := hcell (k * 8 + 1) _ z1
      rw [← Nat.add_assoc] at c1
      have c2 := hcell (k * 8 + 2) _ z2
      rw [← Nat.add_assoc] at c2
      have c3 := hcell (k * 8 + 3) _ z3
      rw [← Nat.add_assoc] at c3
      have c4 := hcell (k * 8 + 4) _ z4
      rw [← Nat.add_assoc] at c4
      have c5 := hcell (k * 8 + 5) _ z5
      rw [← Nat.add_assoc] at c5
      have c6 := hcell (k * 8 + 6) _ z6
      rw [← Nat.add_assoc] at c6
      have c7 := hcell (k * 8 + 7) _ z7
      rw [← Nat.add_assoc] at c7
      clear hcell z0 z1 z2 z3 z4 z5 z6 z7 hz
      subst eA
      have CP := Lib.hid (partOf n q l x y h t m b0 Mk (wr.alloc (.cells (ca n q l x y h t m) 36)) (LK.out.alloc _) (DK.out.more (by simp)))
      have TK := Lib.hid tk
      have ZZ := Lib.hid hzz
      clear hRk tk hzz hbl2
      go_wp2_with fail
      refine CP.out.mono ?_
      rintro e w2 ⟨M2, c, rfl, HP⟩
      have g2 := HP.grown
      have R2 := owns_grown (RK.out.alloc (.cells (ca n q l x y h t m) 36)) g2 (fun u hu e => by cases hu; injection e with e; (have e' : b0 = w.heap.size := e); omega)
      have eM : ptM M2 ⟨n, q, l, x, y, h, t, m⟩ = pt n q l x y h t m c := by
        unfold ptM
        exact pt_eq fun e => by rw [HP.here e]; rfl
      have mE : mixed (zs.map (ptM Mk)) (List.replicate n0 .nilIface) k = mixed (zs.map (ptM M2)) (List.replicate n0 .nilIface) k := by
        unfold mixed
        rw [← List.map_take, ← List.map_take]
        congr 1
        exact List.map_congr_left fun d hd => (ptM_old (MK.out.all d hd) HP.old).symm
      rw [mE] at R2
      have hlen : (List.replicate n0 Value.nilIface).length = (zs.map (ptM M2)).length := by rw [List.length_replicate, List.length_map, HN.out]
      have e0 : w2.cell? ⟨w.heap.size, k, none⟩ = some .nilIface := (R2.cellAt k (by show k < n0 * 1; omega)).trans (mixed_at hlen (Nat.le_refl _) (by rw [List.getElem?_replicate, if_pos hlt]))
      have f0 := R2.frozenAt k
      obtain ⟨r3, g3⟩ := R2.stored k (pt n q l x y h t m c)
      rw [mixed_put hlen (by rw [List.getElem?_map, ZZ.out]; simp [eM])] at r3
      have RR := Lib.hid r3
      have GG := Lib.hid (show w.grownBy (w2.setCell ⟨w.heap.size, k, none⟩ (pt n q l x y h t m c)) (some b0) from gthen (grown_trans (grown_trans GK.out (World.grownBy_alloc _ _ _)) g2) g3 (fun j hj => by cases hj; exact Or.inl (Nat.le_refl _)))
      have LL := Lib.hid (show Ls (w2.setCell ⟨w.heap.size, k, none⟩ (pt n q l x y h t m c)) b0 M2 from HP.ls.set (by show w.heap.size ≠ b0; omega) _)
      have DD := Lib.hid (show Gd (w2.setCell ⟨w.heap.size, k, none⟩ (pt n q l x y h t m c)) M2 from HP.gd.more (by simp))
      have MM := Lib.hid (show Made (zs.take (k + 1)) M M2 by rw [TK.out]; exact Made.snoc MK.out HP.here HP.old HP.new)
      have hsz : w.heap.size < w2.heap.size := World.block_lt_of_cell? w2 _ e0
      clear HP g2 R2 eM mE hlen r3 g3 RK LK DK MK GK TK ZZ CP c0 c1 c2 c3 c4 c5 c6 c7
      have PF := pt_form n q l x y h t m c
      generalize pt n q l x y h t m c = V at *
      rcases PF with ⟨T, u, rfl⟩ | rfl
      all_goals go_wp2_with fail
      all_goals go_roundw
      case rel => exact ⟨k + 1, M2, by omega, by go_num, RR, LL, DD, MM, GG⟩
      case measure => simp [intOf]; omega
      case rel => exact ⟨k + 1, M2, by omega, by go_num, RR, LL, DD, MM, GG⟩
      case measure => simp [intOf]; omega
    · obtain rfl : k = n0 := by omega
      go_wp2_with fail
      go_ret
      refine ⟨w.heap.size, Mk, rfl, Nat.le_refl _, ?_, ?_, LK.out, DK.out, GK.out⟩
      · have := RK.out
        rw [show k = (zs.map (ptM Mk)).length by rw [List.length_map, HN.out], mixed_all (by rw [List.length_replicate])] at this
        rw [List.length_map, HN.out] at this
        exact this
      · have := MK.out
        rw [List.take_of_length_le (by rw [HN.out]; exact Nat.le_refl _)] at this
        exact this

end Go.Proofs.YtokncfhpmjohdabGreat.Pa
namespace Go.Proofs.YtokncfhpmjohdabGreat.Di
open Go.RowKit Go.Proofs.YtokncfhpmjohdabGreat.Cm Go.Proofs.YtokncfhpmjohdabGreat.Pl Go.Proofs.YtokncfhpmjohdabGreat.Str Go.Proofs.YtokncfhpmjohdabGreat.Pw Go.Proofs.YtokncfhpmjohdabGreat.P2 Go.Proofs.YtokncfhpmjohdabGreat.Hd Go.Proofs.YtokncfhpmjohdabGreat.Jt Go.Proofs.YtokncfhpmjohdabGreat.Dd Go.Proofs.YtokncfhpmjohdabGreat.IsName Go.Proofs.YtokncfhpmjohdabGreat.Ds Go.Proofs.YtokncfhpmjohdabGreat.Ch Go.Proofs.YtokncfhpmjohdabGreat.Hn Go.Proofs.YtokncfhpmjohdabGreat.Po
set_option linter.unusedVariables false
set_option linter.unusedSimpArgs false

set_option maxHeartbeats 4000000 in
theorem isDeviceI (n : ByteArray) (k : Int) (l : ByteArray) (x y h t m : Int) (w : World) :
    Calls Tryz.prog 101 #[va n k l x y h t m] w fun e w' => e = .returned (.bool (devB n k l x y h t m)) ∧ Below w.heap.size w w' := by
  have cn := IsName.impl n
  have L0 : Ls ((w.alloc (.cells (ca n k l x y h t m) 36)).alloc (.map #[] 0)) (w.heap.size + 1) [] := by
    have := Ls.made (w.alloc (.cells (ca n k l x y h t m) 36)); simpa using this
  have hmm := @run_makeMap Tryz.prog
  have CP := Lib.hid (partOf n k l x y h t m (w.heap.size + 1) [] _ L0 (Gd.nil _))
  clear L0
  unfold devB
  generalize nameB n = bn at *
  have HN := Lib.hid cn
  clear cn
  have hm0 : True := trivial
  by_cases k1 : k = 1
  · subst k1
    have S := Lib.hid (pumpSound n l x y h t m)
    rw [if_pos rfl]
    generalize pumpB l x y h t m = r at *
    clear hm0
    cases bn <;> cases r
    all_goals
      simp only [Bool.true_and, Bool.false_and]
      go_enter Tryz.func101, Tryz.ntmps101
      go_wp2_with fail
      refine (CP.out).mono ?_
      rintro e w1 ⟨M', c, rfl, HP⟩
      have p0 : w.heap.size < w1.heap.size := by have := HP.grown.size; simp at this; omega
      have c0 : w1.cell? ⟨w.heap.size, 0, none⟩ = some (.string n) := HP.grown.cell (by simp [go_sem]) (by simp)
      have H1 := Lib.hid (show Below w.heap.size w w1 from Below.grown (by go_grown) HP.grown (by simp; omega) (fun k hk => by cases hk; omega))
      clear HP
      rw [show pt n 1 l x y h t m c = .iface 178 (va n 1 l x y h t m) from rfl]
      go_wp2_with fail
      refine (HN.out _).mono ?_
      rintro e w' ⟨rfl, rfl⟩
      go_wp2_with fail
      first
        | (go_returns; exact ⟨rfl, H1.out⟩)
        | (refine (S.out _).mono ?_
           rintro e w2 ⟨rfl, hb⟩
           have H2 := Lib.hid (H1.out.trans (hb.mono H1.out.size))
           clear hb
           go_wp2_with fail
           go_returns
           exact ⟨rfl, H2.out⟩)
  by_cases k2 : k = 2
  · subst k2
    have S := Lib.hid (nozSound n l x y h t m)
    rw [if_neg k1, if_pos rfl]; clear k1
    generalize nozB n l x y h t m = r at *
    clear hm0
    cases bn <;> cases r
    all_goals
      simp only [Bool.true_and, Bool.false_and]
      go_enter Tryz.func101, Tryz.ntmps101
      go_wp2_with fail
      refine (CP.out).mono ?_
      rintro e w1 ⟨M', c, rfl, HP⟩
      have p0 : w.heap.size < w1.heap.size := by have := HP.grown.size; simp at this; omega
      have c0 : w1.cell? ⟨w.heap.size, 0, none⟩ = some (.string n) := HP.grown.cell (by simp [go_sem]) (by simp)
      have H1 := Lib.hid (show Below w.heap.size w w1 from Below.grown (by go_grown) HP.grown (by simp; omega) (fun k hk => by cases hk; omega))
      clear HP
      rw [show pt n 2 l x y h t m c = .iface 184 (hv n 2 l x y h t m c) from rfl]
      go_wp2_with fail
      refine (HN.out _).mono ?_
      rintro e w' ⟨rfl, rfl⟩
      go_wp2_with fail
      first
        | (go_returns; exact ⟨rfl, H1.out⟩)
        | (refine (S.out c _).mono ?_
           rintro e w2 ⟨rfl, hb⟩
           have H2 := Lib.hid (H1.out.trans (hb.mono H1.out.size))
           clear hb
           go_wp2_with fail
           go_returns
           exact ⟨rfl, H2.out⟩)
  by_cases k3 : k = 3
  · subst k3
    have S := Lib.hid (lampSound n l x y h t m)
    rw [if_neg k1, if_neg k2, if_pos rfl]; clear k1 k2
    generalize lampB n l x y h t m = r at *
    clear hm0
    cases bn <;> cases r
    all_goals
      simp only [Bool.true_and, Bool.false_and]
      go_enter Tryz.func101, Tryz.ntmps101
      go_wp2_with fail
      refine (CP.out).mono ?_
      rintro e w1 ⟨M', c, rfl, HP⟩
      have p0 : w.heap.size < w1.heap.size := by have := HP.grown.size; simp at this; omega
      have c0 : w1.cell? ⟨w.heap.size, 0, none⟩ = some (.string n) := HP.grown.cell (by simp [go_sem]) (by simp)
      have H1 := Lib.hid (show Below w.heap.size w w1 from Below.grown (by go_grown) HP.grown (by simp; omega) (fun k hk => by cases hk; omega))
      clear HP
      rw [show pt n 3 l x y h t m c = .iface 185 (hv n 3 l x y h t m c) from rfl]
      go_wp2_with fail
      refine (HN.out _).mono ?_
      rintro e w' ⟨rfl, rfl⟩
      go_wp2_with fail
      first
        | (go_returns; exact ⟨rfl, H1.out⟩)
        | (refine (S.out c _).mono ?_
           rintro e w2 ⟨rfl, hb⟩
           have H2 := Lib.hid (H1.out.trans (hb.mono H1.out.size))
           clear hb
           go_wp2_with fail
           go_returns
           exact ⟨rfl, H2.out⟩)
  rw [if_neg k1, if_neg k2, if_neg k3, Bool.and_false]
  have PT := Lib.hid (show ∀ c, pt n k l x y h t m c = .nilIface from fun c => by simp [pt, k1, k2, k3])
  clear k1 k2 k3 hm0
  cases bn
  all_goals
    go_enter Tryz.func101, Tryz.ntmps101
    go_wp2_with fail
    refine (CP.out).mono ?_
    rintro e w1 ⟨M', c, rfl, HP⟩
    have H1 := Lib.hid (show Below w.heap.size w w1 from Below.grown (by go_grown) HP.grown (by simp; omega) (fun k hk => by cases hk; omega))
    clear HP
    rw [PT.out]
    go_wp2_with fail
    go_returns
    exact ⟨rfl, H1.out⟩
end Go.Proofs.YtokncfhpmjohdabGreat.Di
namespace Go.Proofs.YtokncfhpmjohdabGreat.Ig
open Go.RowKit Go.ChangeShapes Go.WideShapes Go.WideElems Go.Deep Go.Proofs.YtokncfhpmjohdabGreat.Mem Go.Proofs.YtokncfhpmjohdabGreat.Rw Go.Proofs.YtokncfhpmjohdabGreat.Pw Go.Proofs.YtokncfhpmjohdabGreat.P2 Go.Proofs.YtokncfhpmjohdabGreat.Dd Go.Proofs.YtokncfhpmjohdabGreat.Dv Go.Proofs.YtokncfhpmjohdabGreat.Dl Go.Proofs.YtokncfhpmjohdabGreat.Ds Go.Proofs.YtokncfhpmjohdabGreat.Fd Go.Proofs.YtokncfhpmjohdabGreat.Ch Go.Proofs.YtokncfhpmjohdabGreat.Hn Go.Proofs.YtokncfhpmjohdabGreat.Po
set_option linter.unusedVariables false
set_option linter.unusedSimpArgs false
open Go.Proofs.YtokncfhpmjohdabGreat.Ho Go.Proofs.YtokncfhpmjohdabGreat.Pa Go.Proofs.YtokncfhpmjohdabGreat.Di

/-- Whether a name is before another one. -/
def lt (a b : ByteArray) : Bool := Op.bytesLess a.toList b.toList
noncomputable def dB (d : D) : Bool := devB d.nm d.kd d.ln d.x d.y d.hd d.tl d.ms
/-- Whether the device at a place is behind the one before it. -/
def ordA (zs : List D) : Nat → Bool
  | 0 => true
  | p + 1 => match zs[p]?, zs[p + 1]? with | some a, some d => lt a.nm d.nm | _, _ => true
theorem ordA_zero (zs : List D) : ordA zs 0 = true := rfl
theorem ordA_succ {zs : List D} {p : Nat} {a d : D} (ha : zs[p]? = some a) (hd : zs[p + 1]? = some d) : ordA zs (p + 1) = lt a.nm d.nm := by
  show (match zs[p]?, zs[p + 1]? with | some a, some d => lt a.nm d.nm | _, _ => true) = _
  rw [ha, hd]
def Rig (zs : List D) : Prop := zs.length ≤ 8 ∧ ∀ (k : Nat) (d : D), zs[k]? = some d → dB d = true ∧ ordA zs k = true ∧ hgV zs d.kd d.ln = true
/-- Whether these devices are a rig. -/
noncomputable def rig (zs : List D) : Bool := @decide (Rig zs) (Classical.propDecidable _)
theorem rig_yes {zs : List D} (h : Rig zs) : rig zs = true := by unfold rig; exact @decide_eq_true _ (Classical.propDecidable _) h
theorem rig_no {zs : List D} (h : ¬ Rig zs) : rig zs = false := by unfold rig; exact @decide_eq_false _ (Classical.propDecidable _) h
theorem rig_of {zs : List D} (h : rig zs = true) : Rig zs := by
  by_cases c : Rig zs
  · exact c
  · rw [rig_no c] at h; cases h
/-- Whether each of these hangs as it should. -/
def Held (zs : List D) : Prop := ∀ (k : Nat) (d : D), zs[k]? = some d → hgV zs d.kd d.ln = true
noncomputable def heldB (zs : List D) : Bool := @decide (Held zs) (Classical.propDecidable _)
theorem held_yes {zs : List D} (h : Held zs) : heldB zs = true := by unfold heldB; exact @decide_eq_true _ (Classical.propDecidable _) h
theorem held_no {zs : List D} (h : ¬ Held zs) : heldB zs = false := by unfold heldB; exact @decide_eq_false _ (Classical.propDecidable _) h

theorem run_geq (a b : ByteArray) (w : World) : (binOp .geq 9 (.string a) (.string b)).run Tryz.prog w = .ok (.bool (!lt a b)) w := by simp [binOp, Op.stringOp, lt]
theorem run_gtr (a b : ByteArray) (w : World) : (binOp .gtr 9 (.string a) (.string b)).run Tryz.prog w = .ok (.bool (!(lt a b || a.toList == b.toList))) w := by simp [binOp, Op.stringOp, lt]

/-- How two names compare. -/
def cn (a b : ByteArray) : Int := if lt a b then -1 else if sb a b then 0 else 1
theorem isNaN (a : ByteArray) (w : World) : Calls Tryz.prog 157 #[.string a] w fun e w' => e = .returned (.bool false) ∧ w = w' := by
  have h : (a.toList == a.toList) = true := by simp
  go_enter Tryz.func157, Tryz.ntmps157
  go_wp2
  go_returns
  exact ⟨rfl, rfl⟩
theorem compareS (a b : ByteArray) (w : World) : Calls Tryz.prog 135 #[.string a, .string b] w fun e w' => e = .returned (.int .i64 (cn a b)) ∧ w = w' := by
  have hg := run_gtr a b
  unfold cn
  cases h1 : lt a b
  · cases h2 : sb a b
    all_goals
      have s1 : Op.bytesLess a.toList b.toList = false := h1
      have s2 : (a.toList == b.toList) = _ := h2
      rw [h1, s2] at hg
      clear h1 h2
      go_enter Tryz.func135, Tryz.ntmps135
      go_wp2_with (go_at_call 157; ((with_reducible refine (isNaN _ _).mono ?_); rintro e w' ⟨rfl, rfl⟩))
      go_returns
      exact ⟨rfl, rfl⟩
  · have s1 : Op.bytesLess a.toList b.toList = true := h1
    clear h1 hg
    go_enter Tryz.func135, Tryz.ntmps135
    go_wp2_with (go_at_call 157; ((with_reducible refine (isNaN _ _).mono ?_); rintro e w' ⟨rfl, rfl⟩))
    go_returns
    exact ⟨rfl, rfl⟩
theorem compareNames (n n' : ByteArray) (k : Int) (l : ByteArray) (x y h t m : Int) (k' : Int) (l' : ByteArray) (x' y' h' t' m' : Int) (w : World) :
    Calls Tryz.prog 102 #[va n k l x y h t m, va n' k' l' x' y' h' t' m'] w fun e w' => e = .returned (.int .i64 (cn n n')) ∧ Below w.heap.size w w' := by
  go_enter Tryz.func102, Tryz.ntmps102
  go_wp2_with fail
  refine (compareS _ _ _).mono ?_
  rintro e w' ⟨rfl, rfl⟩
  go_wp2_with fail
  go_returns
  exact ⟨rfl, by go_grown⟩

theorem as_pump (v : Value) (xT : TypeId) (w : World) : (Instr.typeAssert (.iface 178 v) xT 168 true).run Tryz.prog w = .ok (.tuple #[.nilIface, .bool false]) w := run_typeAssert_lacksB Tryz.underlying168 (by kernel_rfl) (by kernel_rfl) v xT w
theorem as_nozzle (v : Value) (xT : TypeId) (w : World) : (Instr.typeAssert (.iface 184 v) xT 168 true).run Tryz.prog w = .ok (.tuple #[.iface 184 v, .bool true]) w := run_typeAssert_hasB Tryz.underlying168 (by kernel_rfl) v xT w
theorem as_lamp (v : Value) (xT : TypeId) (w : World) : (Instr.typeAssert (.iface 185 v) xT 168 true).run Tryz.prog w = .ok (.tuple #[.iface 185 v, .bool true]) w := run_typeAssert_hasB Tryz.underlying168 (by kernel_rfl) v xT w
theorem as_nil (xT : TypeId) (w : World) : (Instr.typeAssert .nilIface xT 168 true).run Tryz.prog w = .ok (.tuple #[.nilIface, .bool false]) w := by kernel_rfl

theorem me2 (f : Nat) (n : ByteArray) (k : Int) (l : ByteArray) (x y h t m : Int) (c : Nat) (w : World) : (method (f + 1) 184 (hv n k l x y h t m c) "loop.example/g03017/impl.holderKind").run Tryz.prog w = .ok (198, hv n k l x y h t m c) w := by kernel_rfl
theorem me3 (f : Nat) (n : ByteArray) (k : Int) (l : ByteArray) (x y h t m : Int) (c : Nat) (w : World) : (method (f + 1) 185 (hv n k l x y h t m c) "loop.example/g03017/impl.holderKind").run Tryz.prog w = .ok (203, hv n k l x y h t m c) w := by kernel_rfl
theorem holder2 (n : ByteArray) (k : Int) (l : ByteArray) (x y h t m : Int) (c : Nat) (w : World) : Calls Tryz.prog 198 #[hv n k l x y h t m c] w fun e w' => e = .returned (.int .i64 1) ∧ Below w.heap.size w w' := by
  go_enter Tryz.func198, Tryz.ntmps198
  go_wp2_with fail
  go_returns
  exact ⟨rfl, by first | go_grown | exact Below.refl _ _⟩
theorem holder3 (n : ByteArray) (k : Int) (l : ByteArray) (x y h t m : Int) (c : Nat) (w : World) : Calls Tryz.prog 203 #[hv n k l x y h t m c] w fun e w' => e = .returned (.int .i64 2) ∧ Below w.heap.size w w' := by
  go_enter Tryz.func203, Tryz.ntmps203
  go_wp2_with fail
  go_returns
  exact ⟨rfl, by first | go_grown | exact Below.refl _ _⟩

set_option maxHeartbeats 8000000 in
set_option maxRecDepth 100000 in
theorem areHeld (A : Option Addr) (n0 c9 : Nat) (zs : List D) (w : World) (hn : zs.length = n0) (hb : n0 ≤ 1048576) (hr : Rd w w.heap.size A (dls zs)) :
    Calls Tryz.prog 103 #[.slice A n0 c9] w fun e w' => e = .returned (.bool (heldB zs)) ∧ Below w.heap.size w w' := by
  have hu : undef = Value.tuple #[] := rfl
  have hmm := @run_makeMap Tryz.prog
  have CP := Lib.hid (partsOf A n0 c9 w.heap.size zs [] w.heap.size (w.alloc (.map #[] 0)) hn hb (by simp) (hr.below (by go_grown)) (by
    rcases hr with h | ⟨b', o', e, hb', _⟩
    · exact Or.inr h
    · refine Or.inl ?_; rw [e]; simp; omega) (Ls.made w) (Gd.nil _))
  have HR := Lib.hid hr
  have HN := Lib.hid hn
  clear hr hn
  go_enter Tryz.func103, Tryz.ntmps103
  go_wp2_with fail
  refine CP.out.mono ?_
  rintro e w2 ⟨g, M, rfl, HP⟩
  have HP := Lib.hid HP
  have B0 := Lib.hid (show Below w.heap.size w w2 from Below.grown (by go_grown) HP.out.grown (by simp) (fun k hk => by cases hk; exact Nat.le_refl _))
  clear CP
  go_wp2_with fail
  go_loopw [12] (fun i wr => ∃ k : Nat, k ≤ n0 ∧ i = .int .i64 k ∧ Hid (∀ (j : Nat) (d : D), j < k → zs[j]? = some d → hgV zs d.kd d.ln = true) ∧ Hid (Below w2.heap.size w2 wr)) (fun i _ => n0 - (intOf i).toNat)
  case atStart => exact ⟨0, Nat.zero_le _, rfl, Lib.hid (fun j d h => by omega), Lib.hid (Below.refl _ _)⟩
  case round =>
    obtain ⟨k, hk, rfl, AK, BK⟩ := hrel
    clear hmm
    by_cases hlt : k < n0
    · obtain ⟨z, hz⟩ : ∃ z, zs[k]? = some z := ⟨_, List.getElem?_eq_getElem (by rw [HN.out]; exact hlt)⟩
      have HZ := Lib.hid hz
      have BW := Lib.hid (B0.out.trans (BK.out.mono B0.out.size))
      have RW := Lib.hid (HR.out.below BW.out)
      have hp : wr.cell? ⟨g, k, none⟩ = some (ptM M z) := by
        have := HP.out.row.cellAt k (by show k < n0 * 1; omega)
        rw [List.getElem?_map, hz, Option.map_some] at this
        exact cell_below BK.out this
      obtain ⟨n, q, l, x, y, h, t, m⟩ := z
      unfold ptM at hp
      simp only [] at hp
      generalize (lk M l).getD 0 = c at hp
      by_cases q1 : q = 1
      · subst q1
        rw [show pt n 1 l x y h t m c = .iface 178 (va n 1 l x y h t m) from rfl] at hp
        have ta := as_pump
        have BN := BK
        have HH := Lib.hid (hgV_o (k := 1) (by decide) (by decide) zs l)
        clear hz
        go_wp2_with fail
        go_roundw
        case rel => exact ⟨k + 1, by omega, by go_num, Lib.hid (fun j d hj hd => by
          by_cases e : j = k
          · subst e; rw [HZ.out] at hd; cases hd; exact HH.out
          · exact AK.out j d (by omega) hd), BN⟩
        case measure => simp [intOf]; omega
      by_cases q2 : q = 2
      · subst q2
        rw [show pt n 2 l x y h t m c = .iface 184 (hv n 2 l x y h t m c) from rfl] at hp
        have ta := as_nozzle
        obtain ⟨b, o, eA, hbl, hcell⟩ := RW.out.get (k := k * 8) (by rw [dls_len, HN.out]; omega)
        have z2 := (dls_get hz).2.2.1
        have cl2 : wr.cell? ⟨b, o + k * 8 + 2, none⟩ = some (.string l) := by rw [Nat.add_assoc]; exact hcell _ _ z2
        have HC := Lib.hid hcell
        have CF := Lib.hid (findI A n0 c9 zs l wr HN.out hb (RW.out.more BW.out.size))
        subst eA
        clear z2 hcell hz
        go_wp2_with fail
        refine CF.out.mono ?_
        rintro e w3 ⟨rfl, hb3⟩
        have B3 := Lib.hid hb3
        have BN := Lib.hid (BK.out.trans (hb3.mono BK.out.size))
        clear hb3 CF cl2 hp ta
        rcases fd_cases zs l with hf | ⟨j, hf, hj, d, hd, _⟩
        · rw [hf]
          have HH := Lib.hid (show heldB zs = false from held_no fun H => by
            have := H k _ HZ.out
            rw [show hgV zs 2 l = kAt zs (fd zs l) 1 from rfl, hf, kAt_no] at this
            cases this)
          clear hf
          go_wp2_with fail
          refine wp_region_noPanic ?_
          refine wp_region_held_drew (S := (fun w' => Below w3.heap.size w3 w')) (by kernel_rfl) ?_ (fun hH => ?_)
          · exact (Below.refl _ _).drew
          refine wpAnyH_take (i := 0) (oi := { dst := some 30, op := _, type := _, pos := _, after := _, guard := _ }) (v := ?_) rfl (by kernel_rfl) (by kernel_rfl) (by kernel_rfl) (fun _ _ _ h => h) (Or.inl ⟨by rfl, ?_⟩) hH ?_
          rotate_left 1
          · intro W hSw
            (try dsimp only at hSw)
            go_simp
            (try with_reducible rfl)
          try simp only [Act.put, List.setIfInBounds_toArray, List.set_cons_zero, List.set_cons_succ]
          refine wpAnyH_take (i := 1) (oi := { dst := some 31, op := _, type := _, pos := _, after := _, guard := _ }) (v := ?_) rfl (by kernel_rfl) (by kernel_rfl) (by kernel_rfl) (fun _ _ _ h => h) (Or.inl ⟨by rfl, ?_⟩) hH ?_
          rotate_left 1
          · intro W hSw
            (try dsimp only at hSw)
            go_simp
            (try with_reducible rfl)
          try simp only [Act.put, List.setIfInBounds_toArray, List.set_cons_zero, List.set_cons_succ]
          refine wpAnyH_take (i := 2) (oi := { dst := some 32, op := _, type := _, pos := _, after := _, guard := _ }) (v := ?_) rfl (by kernel_rfl) (by kernel_rfl) (by kernel_rfl) (fun _ _ _ h => h) (Or.inl ⟨by rfl, ?_⟩) hH ?_
          rotate_left 1
          · intro W hSw
            (try dsimp only at hSw)
            go_simp
            (try with_reducible rfl)
          try simp only [Act.put, List.setIfInBounds_toArray, List.set_cons_zero, List.set_cons_succ]
          refine wpAnyH_take (i := 3) (oi := { dst := some 33, op := _, type := _, pos := _, after := _, guard := _ }) (v := undef) rfl (by kernel_rfl) (by kernel_rfl) (by kernel_rfl) (fun _ _ _ h => h) (Or.inr ⟨by simp [Region.wanted, yielded, hu], rfl⟩) hH ?_
          try simp only [Act.put, List.setIfInBounds_toArray, List.set_cons_zero, List.set_cons_succ]
          refine wpAnyH_take (i := 4) (oi := { dst := some 34, op := _, type := _, pos := _, after := _, guard := _ }) (v := undef) rfl (by kernel_rfl) (by kernel_rfl) (by kernel_rfl) (fun _ _ _ h => h) (Or.inr ⟨by simp [Region.wanted, yielded, hu], rfl⟩) hH ?_
          try simp only [Act.put, List.setIfInBounds_toArray, List.set_cons_zero, List.set_cons_succ]
          refine wpAnyH_take (i := 5) (oi := { dst := some 35, op := _, type := _, pos := _, after := _, guard := _ }) (v := undef) rfl (by kernel_rfl) (by kernel_rfl) (by kernel_rfl) (fun _ _ _ h => h) (Or.inr ⟨by simp [Region.wanted, yielded, hu], rfl⟩) hH ?_
          try simp only [Act.put, List.setIfInBounds_toArray, List.set_cons_zero, List.set_cons_succ]
          refine wpAnyH_take (i := 6) (oi := { dst := some 36, op := _, type := _, pos := _, after := _, guard := _ }) (v := undef) rfl (by kernel_rfl) (by kernel_rfl) (by kernel_rfl) (fun _ _ _ h => h) (Or.inr ⟨by simp [Region.wanted, yielded, hu], rfl⟩) hH ?_
          try simp only [Act.put, List.setIfInBounds_toArray, List.set_cons_zero, List.set_cons_succ]
          refine wpAnyH_take (i := 7) (oi := { dst := some 37, op := _, type := _, pos := _, after := _, guard := _ }) (v := undef) rfl (by kernel_rfl) (by kernel_rfl) (by kernel_rfl) (fun _ _ _ h => h) (Or.inr ⟨by simp [Region.wanted, yielded, hu], rfl⟩) hH ?_
          try simp only [Act.put, List.setIfInBounds_toArray, List.set_cons_zero, List.set_cons_succ]
          refine wpAnyH_take (i := 8) (oi := { dst := some 38, op := _, type := _, pos := _, after := _, guard := _ }) (v := undef) rfl (by kernel_rfl) (by kernel_rfl) (by kernel_rfl) (fun _ _ _ h => h) (Or.inr ⟨by simp [Region.wanted, yielded, hu], rfl⟩) hH ?_
          try simp only [Act.put, List.setIfInBounds_toArray, List.set_cons_zero, List.set_cons_succ]
          refine wpAnyH_take (i := 9) (oi := { dst := some 39, op := _, type := _, pos := _, after := _, guard := _ }) (v := undef) rfl (by kernel_rfl) (by kernel_rfl) (by kernel_rfl) (fun _ _ _ h => h) (Or.inr ⟨by simp [Region.wanted, yielded, hu], rfl⟩) hH ?_
          try simp only [Act.put, List.setIfInBounds_toArray, List.set_cons_zero, List.set_cons_succ]
          refine wpAnyH_take (i := 10) (oi := { dst := some 40, op := _, type := _, pos := _, after := _, guard := _ }) (v := undef) rfl (by kernel_rfl) (by kernel_rfl) (by kernel_rfl) (fun _ _ _ h => h) (Or.inr ⟨by simp [Region.wanted, yielded, hu], rfl⟩) hH ?_
          try simp only [Act.put, List.setIfInBounds_toArray, List.set_cons_zero, List.set_cons_succ]
          refine wpAnyH_take (i := 11) (oi := { dst := some 41, op := _, type := _, pos := _, after := _, guard := _ }) (v := ?_) rfl (by kernel_rfl) (by kernel_rfl) (by kernel_rfl) (fun _ _ _ h => h) (Or.inl ⟨by rfl, ?_⟩) hH ?_
          rotate_left 1
          · intro W hSw
            (try dsimp only at hSw)
            go_simp
            (try with_reducible rfl)
          try simp only [Act.put, List.setIfInBounds_toArray, List.set_cons_zero, List.set_cons_succ]
          refine wpAnyH_done (by kernel_rfl) ?_ _
          refine NoPanic.normal ?_
          have B4 := Lib.hid (BW.out.trans ((B3.out.trans (hH.mono B3.out.size)).mono BW.out.size))
          clear hH
          go_wp2_with fail
          go_ret
          exact ⟨by rw [HH.out]; rfl, B4.out⟩
        · rw [hf]
          have HF := Lib.hid hf
          have HD := Lib.hid hd
          have hj0 : j < n0 := by rw [← HN.out]; exact hj
          have ck : w3.cell? ⟨b, o + j * 8 + 1, none⟩ = some (.int .i64 d.kd) := by
            rw [Nat.add_assoc]; exact (B3.out.cell (p := ⟨b, o + (j * 8 + 1), none⟩) (Nat.lt_of_lt_of_le hbl BW.out.size)).trans (HC.out _ _ (dls_get hd).2.1)
          have HQ := Lib.hid (show hgV zs 2 l = (d.kd == 1) by rw [show hgV zs 2 l = kAt zs (fd zs l) 1 from rfl, hf, kAt_yes hd])
          obtain ⟨u, hu2⟩ : ∃ u, d.kd = u := ⟨_, rfl⟩
          rw [hu2] at ck HQ
          obtain ⟨r, hr⟩ : ∃ r, (u == 1) = r := ⟨_, rfl⟩
          rw [hr] at HQ
          have hq : decide (u = 1) = r := by rw [← hr]; by_cases e : u = 1 <;> simp [e]
          have hneg : decide ((j : Int) < 0) = false := decide_eq_false (by omega)
          have hneg2 : ¬ (j : Int) < 0 := by omega
          have HK := Lib.hid (fun W => holder2 n 2 l x y h t m c W)
          clear hf hd hj hu2
          go_wp2_with fail
          refine wp_region_noPanic ?_
          refine wp_region_held_drew (S := (fun w' => w'.cell? ⟨b, o + j * 8 + 1, none⟩ = some (.int .i64 u) ∧ Below w3.heap.size w3 w')) (by kernel_rfl) ?_ (fun hH => ?_)
          · exact ⟨ck, (Below.refl _ _).drew⟩
          refine wpAnyH_take (i := 0) (oi := { dst := some 30, op := _, type := _, pos := _, after := _, guard := _ }) (v := ?_) rfl (by kernel_rfl) (by kernel_rfl) (by kernel_rfl) (fun _ _ _ h => h) (Or.inl ⟨by rfl, ?_⟩) hH ?_
          rotate_left 1
          · intro W hSw
            (try dsimp only at hSw)
            go_simp
            (try with_reducible rfl)
          try simp only [Act.put, List.setIfInBounds_toArray, List.set_cons_zero, List.set_cons_succ]
          refine wpAnyH_take (i := 1) (oi := { dst := some 31, op := _, type := _, pos := _, after := _, guard := _ }) (v := ?_) rfl (by kernel_rfl) (by kernel_rfl) (by kernel_rfl) (fun _ _ _ h => h) (Or.inl ⟨by rfl, ?_⟩) hH ?_
          rotate_left 1
          · intro W hSw
            (try dsimp only at hSw)
            go_simp
            (try with_reducible rfl)
          try simp only [Act.put, List.setIfInBounds_toArray, List.set_cons_zero, List.set_cons_succ]
          refine wpAnyH_take (i := 2) (oi := { dst := some 32, op := _, type := _, pos := _, after := _, guard := _ }) (v := ?_) rfl (by kernel_rfl) (by kernel_rfl) (by kernel_rfl) (fun _ _ _ h => h) (Or.inl ⟨by rfl, ?_⟩) hH ?_
          rotate_left 1
          · intro W hSw
            (try dsimp only at hSw)
            go_simp
            (try with_reducible rfl)
          try simp only [Act.put, List.setIfInBounds_toArray, List.set_cons_zero, List.set_cons_succ]
          refine wpAnyH_take (i := 3) (oi := { dst := some 33, op := _, type := _, pos := _, after := _, guard := _ }) (v := ?_) rfl (by kernel_rfl) (by kernel_rfl) (by kernel_rfl) (fun _ _ _ h => h) (Or.inl ⟨by rfl, ?_⟩) hH ?_
          rotate_left 1
          · intro W hSw
            (try dsimp only at hSw)
            go_simp
            (try with_reducible rfl)
          try simp only [Act.put, List.setIfInBounds_toArray, List.set_cons_zero, List.set_cons_succ]
          refine wpAnyH_take (i := 4) (oi := { dst := some 34, op := _, type := _, pos := _, after := _, guard := _ }) (v := ?_) rfl (by kernel_rfl) (by kernel_rfl) (by kernel_rfl) (fun _ _ _ h => h) (Or.inl ⟨by rfl, ?_⟩) hH ?_
          rotate_left 1
          · intro W hSw
            (try dsimp only at hSw)
            go_simp
            (try with_reducible rfl)
          try simp only [Act.put, List.setIfInBounds_toArray, List.set_cons_zero, List.set_cons_succ]
          refine wpAnyH_take (i := 5) (oi := { dst := some 35, op := _, type := _, pos := _, after := _, guard := _ }) (v := ?_) rfl (by kernel_rfl) (by kernel_rfl) (by kernel_rfl) (fun _ _ _ h => h) (Or.inl ⟨by rfl, ?_⟩) hH ?_
          rotate_left 1
          · intro W hSw
            (try dsimp only at hSw)
            go_simp
            (try with_reducible rfl)
          try simp only [Act.put, List.setIfInBounds_toArray, List.set_cons_zero, List.set_cons_succ]
          refine wpAnyH_take (i := 6) (oi := { dst := some 36, op := _, type := _, pos := _, after := _, guard := _ }) (v := ?_) rfl (by kernel_rfl) (by kernel_rfl) (by kernel_rfl) (fun _ _ _ h => h) (Or.inl ⟨by rfl, ?_⟩) hH ?_
          rotate_left 1
          · intro W hSw
            (try dsimp only at hSw)
            go_simp
            (try with_reducible rfl)
          try simp only [Act.put, List.setIfInBounds_toArray, List.set_cons_zero, List.set_cons_succ]
          refine wpAnyH_take (i := 7) (oi := { dst := some 37, op := _, type := _, pos := _, after := _, guard := _ }) (v := ?_) rfl (by kernel_rfl) (by kernel_rfl) (by kernel_rfl) (fun _ _ _ h => h) (Or.inl ⟨by rfl, ?_⟩) hH ?_
          rotate_left 1
          · intro W hSw
            (try dsimp only at hSw)
            go_simp
            (try with_reducible rfl)
          try simp only [Act.put, List.setIfInBounds_toArray, List.set_cons_zero, List.set_cons_succ]
          refine wpAnyH_take (i := 8) (oi := { dst := some 38, op := _, type := _, pos := _, after := _, guard := _ }) (v := ?_) rfl (by kernel_rfl) (by kernel_rfl) (by kernel_rfl) (fun _ _ _ h => h) (Or.inl ⟨by rfl, ?_⟩) hH ?_
          rotate_left 1
          · intro W hSw
            (try dsimp only at hSw)
            go_simp
            (try with_reducible rfl)
          try simp only [Act.put, List.setIfInBounds_toArray, List.set_cons_zero, List.set_cons_succ]
          refine wpAnyH_ready (rs := [9]) (by kernel_rfl) (by simp) (AllReadyH.cons rfl (fun K hK => ?_) AllReadyH.nil)
          go_simp
          rw [me2]; go_simp; go_at_call 198; ((with_reducible refine (HK.out _).mono ?_); rintro e r1 ⟨rfl, hb9⟩); go_wp2_with fail
          refine hK.out _ _ ?_ (fun hG => ?_)
          · exact ⟨cell_below hb9 hH.1, Below.trans hH.2 (hb9.mono hH.2.size)⟩
          replace hH := hG
          clear hK K hG
          try simp only [Act.put, List.setIfInBounds_toArray, List.set_cons_zero, List.set_cons_succ]
          refine wpAnyH_take (i := 10) (oi := { dst := some 40, op := _, type := _, pos := _, after := _, guard := _ }) (v := ?_) rfl (by kernel_rfl) (by kernel_rfl) (by kernel_rfl) (fun _ _ _ h => h) (Or.inl ⟨by rfl, ?_⟩) hH ?_
          rotate_left 1
          · intro W hSw
            (try dsimp only at hSw)
            go_simp
            (try with_reducible rfl)
          try simp only [Act.put, List.setIfInBounds_toArray, List.set_cons_zero, List.set_cons_succ]
          refine wpAnyH_take (i := 11) (oi := { dst := some 41, op := _, type := _, pos := _, after := _, guard := _ }) (v := ?_) rfl (by kernel_rfl) (by kernel_rfl) (by kernel_rfl) (fun _ _ _ h => h) (Or.inl ⟨by rfl, ?_⟩) hH ?_
          rotate_left 1
          · intro W hSw
            (try dsimp only at hSw)
            go_simp
            (try with_reducible rfl)
          try simp only [Act.put, List.setIfInBounds_toArray, List.set_cons_zero, List.set_cons_succ]
          refine wpAnyH_done (by kernel_rfl) ?_ _
          refine NoPanic.normal ?_
          have B4 := Lib.hid (BW.out.trans ((B3.out.trans (hH.2.mono B3.out.size)).mono BW.out.size))
          have B5 := Lib.hid (BN.out.trans (hH.2.mono BN.out.size))
          clear hH BN
          have BN := B5
          clear B5
          cases r
          · have HH := Lib.hid (show heldB zs = false from held_no fun H => by have := H k _ HZ.out; rw [HQ.out] at this; cases this)
            go_wp2_with fail
            go_ret
            exact ⟨by rw [HH.out]; rfl, B4.out⟩
          · go_wp2_with fail
            go_roundw
            case rel => exact ⟨k + 1, by omega, by go_num, Lib.hid (fun j d hj hd => by
              by_cases e : j = k
              · subst e; rw [HZ.out] at hd; cases hd; exact HQ.out
              · exact AK.out j d (by omega) hd), BN⟩
            case measure => simp [intOf]; omega
      by_cases q3 : q = 3
      · subst q3
        rw [show pt n 3 l x y h t m c = .iface 185 (hv n 3 l x y h t m c) from rfl] at hp
        have ta := as_lamp
        obtain ⟨b, o, eA, hbl, hcell⟩ := RW.out.get (k := k * 8) (by rw [dls_len, HN.out]; omega)
        have z2 := (dls_get hz).2.2.1
        have cl2 : wr.cell? ⟨b, o + k * 8 + 2, none⟩ = some (.string l) := by rw [Nat.add_assoc]; exact hcell _ _ z2
        have HC := Lib.hid hcell
        have CF := Lib.hid (findI A n0 c9 zs l wr HN.out hb (RW.out.more BW.out.size))
        subst eA
        clear z2 hcell hz
        go_wp2_with fail
        refine CF.out.mono ?_
        rintro e w3 ⟨rfl, hb3⟩
        have B3 := Lib.hid hb3
        have BN := Lib.hid (BK.out.trans (hb3.mono BK.out.size))
        clear hb3 CF cl2 hp ta
        rcases fd_cases zs l with hf | ⟨j, hf, hj, d, hd, _⟩
        · rw [hf]
          have HH := Lib.hid (show heldB zs = false from held_no fun H => by
            have := H k _ HZ.out
            rw [show hgV zs 3 l = kAt zs (fd zs l) 2 from rfl, hf, kAt_no] at this
            cases this)
          clear hf
          go_wp2_with fail
          refine wp_region_noPanic ?_
          refine wp_region_held_drew (S := (fun w' => Below w3.heap.size w3 w')) (by kernel_rfl) ?_ (fun hH => ?_)
          · exact (Below.refl _ _).drew
          refine wpAnyH_take (i := 0) (oi := { dst := some 30, op := _, type := _, pos := _, after := _, guard := _ }) (v := ?_) rfl (by kernel_rfl) (by kernel_rfl) (by kernel_rfl) (fun _ _ _ h => h) (Or.inl ⟨by rfl, ?_⟩) hH ?_
          rotate_left 1
          · intro W hSw
            (try dsimp only at hSw)
            go_simp
            (try with_reducible rfl)
          try simp only [Act.put, List.setIfInBounds_toArray, List.set_cons_zero, List.set_cons_succ]
          refine wpAnyH_take (i := 1) (oi := { dst := some 31, op := _, type := _, pos := _, after := _, guard := _ }) (v := ?_) rfl (by kernel_rfl) (by kernel_rfl) (by kernel_rfl) (fun _ _ _ h => h) (Or.inl ⟨by rfl, ?_⟩) hH ?_
          rotate_left 1
          · intro W hSw
            (try dsimp only at hSw)
            go_simp
            (try with_reducible rfl)
          try simp only [Act.put, List.setIfInBounds_toArray, List.set_cons_zero, List.set_cons_succ]
          refine wpAnyH_take (i := 2) (oi := { dst := some 32, op := _, type := _, pos := _, after := _, guard := _ }) (v := ?_) rfl (by kernel_rfl) (by kernel_rfl) (by kernel_rfl) (fun _ _ _ h => h) (Or.inl ⟨by rfl, ?_⟩) hH ?_
          rotate_left 1
          · intro W hSw
            (try dsimp only at hSw)
            go_simp
            (try with_reducible rfl)
          try simp only [Act.put, List.setIfInBounds_toArray, List.set_cons_zero, List.set_cons_succ]
          refine wpAnyH_take (i := 3) (oi := { dst := some 33, op := _, type := _, pos := _, after := _, guard := _ }) (v := undef) rfl (by kernel_rfl) (by kernel_rfl) (by kernel_rfl) (fun _ _ _ h => h) (Or.inr ⟨by simp [Region.wanted, yielded, hu], rfl⟩) hH ?_
          try simp only [Act.put, List.setIfInBounds_toArray, List.set_cons_zero, List.set_cons_succ]
          refine wpAnyH_take (i := 4) (oi := { dst := some 34, op := _, type := _, pos := _, after := _, guard := _ }) (v := undef) rfl (by kernel_rfl) (by kernel_rfl) (by kernel_rfl) (fun _ _ _ h => h) (Or.inr ⟨by simp [Region.wanted, yielded, hu], rfl⟩) hH ?_
          try simp only [Act.put, List.setIfInBounds_toArray, List.set_cons_zero, List.set_cons_succ]
          refine wpAnyH_take (i := 5) (oi := { dst := some 35, op := _, type := _, pos := _, after := _, guard := _ }) (v := undef) rfl (by kernel_rfl) (by kernel_rfl) (by kernel_rfl) (fun _ _ _ h => h) (Or.inr ⟨by simp [Region.wanted, yielded, hu], rfl⟩) hH ?_
          try simp only [Act.put, List.setIfInBounds_toArray, List.set_cons_zero, List.set_cons_succ]
          refine wpAnyH_take (i := 6) (oi := { dst := some 36, op := _, type := _, pos := _, after := _, guard := _ }) (v := undef) rfl (by kernel_rfl) (by kernel_rfl) (by kernel_rfl) (fun _ _ _ h => h) (Or.inr ⟨by simp [Region.wanted, yielded, hu], rfl⟩) hH ?_
          try simp only [Act.put, List.setIfInBounds_toArray, List.set_cons_zero, List.set_cons_succ]
          refine wpAnyH_take (i := 7) (oi := { dst := some 37, op := _, type := _, pos := _, after := _, guard := _ }) (v := undef) rfl (by kernel_rfl) (by kernel_rfl) (by kernel_rfl) (fun _ _ _ h => h) (Or.inr ⟨by simp [Region.wanted, yielded, hu], rfl⟩) hH ?_
          try simp only [Act.put, List.setIfInBounds_toArray, List.set_cons_zero, List.set_cons_succ]
          refine wpAnyH_take (i := 8) (oi := { dst := some 38, op := _, type := _, pos := _, after := _, guard := _ }) (v := undef) rfl (by kernel_rfl) (by kernel_rfl) (by kernel_rfl) (fun _ _ _ h => h) (Or.inr ⟨by simp [Region.wanted, yielded, hu], rfl⟩) hH ?_
          try simp only [Act.put, List.setIfInBounds_toArray, List.set_cons_zero, List.set_cons_succ]
          refine wpAnyH_take (i := 9) (oi := { dst := some 39, op := _, type := _, pos := _, after := _, guard := _ }) (v := undef) rfl (by kernel_rfl) (by kernel_rfl) (by kernel_rfl) (fun _ _ _ h => h) (Or.inr ⟨by simp [Region.wanted, yielded, hu], rfl⟩) hH ?_
          try simp only [Act.put, List.setIfInBounds_toArray, List.set_cons_zero, List.set_cons_succ]
          refine wpAnyH_take (i := 10) (oi := { dst := some 40, op := _, type := _, pos := _, after := _, guard := _ }) (v := undef) rfl (by kernel_rfl) (by kernel_rfl) (by kernel_rfl) (fun _ _ _ h => h) (Or.inr ⟨by simp [Region.wanted, yielded, hu], rfl⟩) hH ?_
          try simp only [Act.put, List.setIfInBounds_toArray, List.set_cons_zero, List.set_cons_succ]
          refine wpAnyH_take (i := 11) (oi := { dst := some 41, op := _, type := _, pos := _, after := _, guard := _ }) (v := ?_) rfl (by kernel_rfl) (by kernel_rfl) (by kernel_rfl) (fun _ _ _ h => h) (Or.inl ⟨by rfl, ?_⟩) hH ?_
          rotate_left 1
          · intro W hSw
            (try dsimp only at hSw)
            go_simp
            (try with_reducible rfl)
          try simp only [Act.put, List.setIfInBounds_toArray, List.set_cons_zero, List.set_cons_succ]
          refine wpAnyH_done (by kernel_rfl) ?_ _
          refine NoPanic.normal ?_
          have B4 := Lib.hid (BW.out.trans ((B3.out.trans (hH.mono B3.out.size)).mono BW.out.size))
          clear hH
          go_wp2_with fail
          go_ret
          exact ⟨by rw [HH.out]; rfl, B4.out⟩
        · rw [hf]
          have HF := Lib.hid hf
          have HD := Lib.hid hd
          have hj0 : j < n0 := by rw [← HN.out]; exact hj
          have ck : w3.cell? ⟨b, o + j * 8 + 1, none⟩ = some (.int .i64 d.kd) := by
            rw [Nat.add_assoc]; exact (B3.out.cell (p := ⟨b, o + (j * 8 + 1), none⟩) (Nat.lt_of_lt_of_le hbl BW.out.size)).trans (HC.out _ _ (dls_get hd).2.1)
          have HQ := Lib.hid (show hgV zs 3 l = (d.kd == 2) by rw [show hgV zs 3 l = kAt zs (fd zs l) 2 from rfl, hf, kAt_yes hd])
          obtain ⟨u, hu2⟩ : ∃ u, d.kd = u := ⟨_, rfl⟩
          rw [hu2] at ck HQ
          obtain ⟨r, hr⟩ : ∃ r, (u == 2) = r := ⟨_, rfl⟩
          rw [hr] at HQ
          have hq : decide (u = 2) = r := by rw [← hr]; by_cases e : u = 2 <;> simp [e]
          have hneg : decide ((j : Int) < 0) = false := decide_eq_false (by omega)
          have hneg2 : ¬ (j : Int) < 0 := by omega
          have HK := Lib.hid (fun W => holder3 n 3 l x y h t m c W)
          clear hf hd hj hu2
          go_wp2_with fail
          refine wp_region_noPanic ?_
          refine wp_region_held_drew (S := (fun w' => w'.cell? ⟨b, o + j * 8 + 1, none⟩ = some (.int .i64 u) ∧ Below w3.heap.size w3 w')) (by kernel_rfl) ?_ (fun hH => ?_)
          · exact ⟨ck, (Below.refl _ _).drew⟩
          refine wpAnyH_take (i := 0) (oi := { dst := some 30, op := _, type := _, pos := _, after := _, guard := _ }) (v := ?_) rfl (by kernel_rfl) (by kernel_rfl) (by kernel_rfl) (fun _ _ _ h => h) (Or.inl ⟨by rfl, ?_⟩) hH ?_
          rotate_left 1
          · intro W hSw
            (try dsimp only at hSw)
            go_simp
            (try with_reducible rfl)
          try simp only [Act.put, List.setIfInBounds_toArray, List.set_cons_zero, List.set_cons_succ]
          refine wpAnyH_take (i := 1) (oi := { dst := some 31, op := _, type := _, pos := _, after := _, guard := _ }) (v := ?_) rfl (by kernel_rfl) (by kernel_rfl) (by kernel_rfl) (fun _ _ _ h => h) (Or.inl ⟨by rfl, ?_⟩) hH ?_
          rotate_left 1
          · intro W hSw
            (try dsimp only at hSw)
            go_simp
            (try with_reducible rfl)
          try simp only [Act.put, List.setIfInBounds_toArray, List.set_cons_zero, List.set_cons_succ]
          refine wpAnyH_take (i := 2) (oi := { dst := some 32, op := _, type := _, pos := _, after := _, guard := _ }) (v := ?_) rfl (by kernel_rfl) (by kernel_rfl) (by kernel_rfl) (fun _ _ _ h => h) (Or.inl ⟨by rfl, ?_⟩) hH ?_
          rotate_left 1
          · intro W hSw
            (try dsimp only at hSw)
            go_simp
            (try with_reducible rfl)
          try simp only [Act.put, List.setIfInBounds_toArray, List.set_cons_zero, List.set_cons_succ]
          refine wpAnyH_take (i := 3) (oi := { dst := some 33, op := _, type := _, pos := _, after := _, guard := _ }) (v := ?_) rfl (by kernel_rfl) (by kernel_rfl) (by kernel_rfl) (fun _ _ _ h => h) (Or.inl ⟨by rfl, ?_⟩) hH ?_
          rotate_left 1
          · intro W hSw
            (try dsimp only at hSw)
            go_simp
            (try with_reducible rfl)
          try simp only [Act.put, List.setIfInBounds_toArray, List.set_cons_zero, List.set_cons_succ]
          refine wpAnyH_take (i := 4) (oi := { dst := some 34, op := _, type := _, pos := _, after := _, guard := _ }) (v := ?_) rfl (by kernel_rfl) (by kernel_rfl) (by kernel_rfl) (fun _ _ _ h => h) (Or.inl ⟨by rfl, ?_⟩) hH ?_
          rotate_left 1
          · intro W hSw
            (try dsimp only at hSw)
            go_simp
            (try with_reducible rfl)
          try simp only [Act.put, List.setIfInBounds_toArray, List.set_cons_zero, List.set_cons_succ]
          refine wpAnyH_take (i := 5) (oi := { dst := some 35, op := _, type := _, pos := _, after := _, guard := _ }) (v := ?_) rfl (by kernel_rfl) (by kernel_rfl) (by kernel_rfl) (fun _ _ _ h => h) (Or.inl ⟨by rfl, ?_⟩) hH ?_
          rotate_left 1
          · intro W hSw
            (try dsimp only at hSw)
            go_simp
            (try with_reducible rfl)
          try simp only [Act.put, List.setIfInBounds_toArray, List.set_cons_zero, List.set_cons_succ]
          refine wpAnyH_take (i := 6) (oi := { dst := some 36, op := _, type := _, pos := _, after := _, guard := _ }) (v := ?_) rfl (by kernel_rfl) (by kernel_rfl) (by kernel_rfl) (fun _ _ _ h => h) (Or.inl ⟨by rfl, ?_⟩) hH ?_
          rotate_left 1
          · intro W hSw
            (try dsimp only at hSw)
            go_simp
            (try with_reducible rfl)
          try simp only [Act.put, List.setIfInBounds_toArray, List.set_cons_zero, List.set_cons_succ]
          refine wpAnyH_take (i := 7) (oi := { dst := some 37, op := _, type := _, pos := _, after := _, guard := _ }) (v := ?_) rfl (by kernel_rfl) (by kernel_rfl) (by kernel_rfl) (fun _ _ _ h => h) (Or.inl ⟨by rfl, ?_⟩) hH ?_
          rotate_left 1
          · intro W hSw
            (try dsimp only at hSw)
            go_simp
            (try with_reducible rfl)
          try simp only [Act.put, List.setIfInBounds_toArray, List.set_cons_zero, List.set_cons_succ]
          refine wpAnyH_take (i := 8) (oi := { dst := some 38, op := _, type := _, pos := _, after := _, guard := _ }) (v := ?_) rfl (by kernel_rfl) (by kernel_rfl) (by kernel_rfl) (fun _ _ _ h => h) (Or.inl ⟨by rfl, ?_⟩) hH ?_
          rotate_left 1
          · intro W hSw
            (try dsimp only at hSw)
            go_simp
            (try with_reducible rfl)
          try simp only [Act.put, List.setIfInBounds_toArray, List.set_cons_zero, List.set_cons_succ]
          refine wpAnyH_ready (rs := [9]) (by kernel_rfl) (by simp) (AllReadyH.cons rfl (fun K hK => ?_) AllReadyH.nil)
          go_simp
          rw [me3]; go_simp; go_at_call 203; ((with_reducible refine (HK.out _).mono ?_); rintro e r1 ⟨rfl, hb9⟩); go_wp2_with fail
          refine hK.out _ _ ?_ (fun hG => ?_)
          · exact ⟨cell_below hb9 hH.1, Below.trans hH.2 (hb9.mono hH.2.size)⟩
          replace hH := hG
          clear hK K hG
          try simp only [Act.put, List.setIfInBounds_toArray, List.set_cons_zero, List.set_cons_succ]
          refine wpAnyH_take (i := 10) (oi := { dst := some 40, op := _, type := _, pos := _, after := _, guard := _ }) (v := ?_) rfl (by kernel_rfl) (by kernel_rfl) (by kernel_rfl) (fun _ _ _ h => h) (Or.inl ⟨by rfl, ?_⟩) hH ?_
          rotate_left 1
          · intro W hSw
            (try dsimp only at hSw)
            go_simp
            (try with_reducible rfl)
          try simp only [Act.put, List.setIfInBounds_toArray, List.set_cons_zero, List.set_cons_succ]
          refine wpAnyH_take (i := 11) (oi := { dst := some 41, op := _, type := _, pos := _, after := _, guard := _ }) (v := ?_) rfl (by kernel_rfl) (by kernel_rfl) (by kernel_rfl) (fun _ _ _ h => h) (Or.inl ⟨by rfl, ?_⟩) hH ?_
          rotate_left 1
          · intro W hSw
            (try dsimp only at hSw)
            go_simp
            (try with_reducible rfl)
          try simp only [Act.put, List.setIfInBounds_toArray, List.set_cons_zero, List.set_cons_succ]
          refine wpAnyH_done (by kernel_rfl) ?_ _
          refine NoPanic.normal ?_
          have B4 := Lib.hid (BW.out.trans ((B3.out.trans (hH.2.mono B3.out.size)).mono BW.out.size))
          have B5 := Lib.hid (BN.out.trans (hH.2.mono BN.out.size))
          clear hH BN
          have BN := B5
          clear B5
          cases r
          · have HH := Lib.hid (show heldB zs = false from held_no fun H => by have := H k _ HZ.out; rw [HQ.out] at this; cases this)
            go_wp2_with fail
            go_ret
            exact ⟨by rw [HH.out]; rfl, B4.out⟩
          · go_wp2_with fail
            go_roundw
            case rel => exact ⟨k + 1, by omega, by go_num, Lib.hid (fun j d hj hd => by
              by_cases e : j = k
              · subst e; rw [HZ.out] at hd; cases hd; exact HQ.out
              · exact AK.out j d (by omega) hd), BN⟩
            case measure => simp [intOf]; omega
      rw [show pt n q l x y h t m c = .nilIface by simp [pt, q1, q2, q3]] at hp
      have ta := as_nil
      have BN := BK
      have HH := Lib.hid (hgV_o q2 q3 zs l)
      clear hz q1 q2 q3
      go_wp2_with fail
      go_roundw
      case rel => exact ⟨k + 1, by omega, by go_num, Lib.hid (fun j d hj hd => by
        by_cases e : j = k
        · subst e; rw [HZ.out] at hd; cases hd; exact HH.out
        · exact AK.out j d (by omega) hd), BN⟩
      case measure => simp [intOf]; omega
    · obtain rfl : k = n0 := by omega
      have HH := Lib.hid (show heldB zs = true from held_yes fun j d hd => AK.out j d (by have := (List.getElem?_eq_some_iff.1 hd).1; rw [HN.out] at this; exact this) hd)
      have B4 := Lib.hid (B0.out.trans (BK.out.mono B0.out.size))
      go_wp2_with fail
      go_ret
      exact ⟨by rw [HH.out]; rfl, B4.out⟩
end Go.Proofs.YtokncfhpmjohdabGreat.Ig
