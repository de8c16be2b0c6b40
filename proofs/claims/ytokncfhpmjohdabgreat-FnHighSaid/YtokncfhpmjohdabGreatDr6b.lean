/- The draw of a rig: some rig with short names; nothing but the cursor is written. -/
import Derived.Test.YtokncfhpmjohdabGreatAd
import Derived.Test.YtokncfhpmjohdabGreatM14
set_option linter.unusedVariables false
set_option linter.unusedSimpArgs false
namespace Go.Proofs.YtokncfhpmjohdabGreat.Dr6
open Go.RowKit Go.ChangeShapes Go.WideShapes Go.WideElems Go.Deep Go.Proofs.YtokncfhpmjohdabGreat.Mem Go.Proofs.YtokncfhpmjohdabGreat.Rw Go.Proofs.YtokncfhpmjohdabGreat.Pw Go.Proofs.YtokncfhpmjohdabGreat.P2 Go.Proofs.YtokncfhpmjohdabGreat.Dd Go.Proofs.YtokncfhpmjohdabGreat.Dv Go.Proofs.YtokncfhpmjohdabGreat.Dl Go.Proofs.YtokncfhpmjohdabGreat.Ds Go.Proofs.YtokncfhpmjohdabGreat.Fd Go.Proofs.YtokncfhpmjohdabGreat.Ch Go.Proofs.YtokncfhpmjohdabGreat.Hn Go.Proofs.YtokncfhpmjohdabGreat.Po
set_option linter.unusedVariables false
set_option linter.unusedSimpArgs false
open Go.Proofs.YtokncfhpmjohdabGreat.Ho Go.Proofs.YtokncfhpmjohdabGreat.Ig Go.Proofs.YtokncfhpmjohdabGreat.Mo Go.Proofs.YtokncfhpmjohdabGreat.Adn Go.Proofs.YtokncfhpmjohdabGreat.Ad Go.Proofs.YtokncfhpmjohdabGreat.Rz Go.Proofs.YtokncfhpmjohdabGreat.Bxd Go.Proofs.YtokncfhpmjohdabGreat.Strs Go.Proofs.YtokncfhpmjohdabGreat.Drs Go.Proofs.YtokncfhpmjohdabGreat.Jt Go.Proofs.YtokncfhpmjohdabGreat.Dp
open Go.Proofs.YtokncfhpmjohdabGreat.Draw (Cur Ready Got GotB u8s below once some_ pick cells_at new Fresh)
open Go.Proofs.YtokncfhpmjohdabGreat.Dr2 (HB cur_set)
open Go.Proofs.YtokncfhpmjohdabGreat.Dr4 (l3Draw l2DrawV)
open Go.Proofs.YtokncfhpmjohdabGreat.Rw (owns_below owns_grown owns_base)

def pumps : List ByteArray := [⟨#[112]⟩, ⟨#[113]⟩]
def nozzles : List ByteArray := [⟨#[97]⟩, ⟨#[98]⟩, ⟨#[99]⟩, ⟨#[114]⟩]
def lamps : List ByteArray := [⟨#[108, 97, 109, 112]⟩, ⟨#[122]⟩]
theorem small {x : ByteArray} (h : x ∈ pumps ∨ x ∈ nozzles ∨ x ∈ lamps) : x.size ≤ 8 := by
  unfold pumps nozzles lamps at h
  simp only [List.mem_cons, List.not_mem_nil, or_false] at h
  rcases h with (h | h) | (h | h | h | h) | (h | h) <;> subst h <;> decide
/-- What is known of a rig that was drawn. -/
def Rn (zs : List D) : Prop := Rig zs ∧ ∀ z ∈ zs, z.nm.size ≤ 8 ∧ z.ln.size ≤ 8
theorem Rn.zero : Rn [] := ⟨⟨by simp, fun k d h => by simp at h⟩, fun d hd => by cases hd⟩
theorem Rn.next {zs : List D} {d : D} (h : Rn zs) (h1 : d.nm.size ≤ 8) (h2 : d.ln.size ≤ 8) : Rn (adL zs d) :=
  ⟨ad_rig h.1, fun z hz => by rcases ad_mem hz with rfl | hz; exact ⟨h1, h2⟩; exact h.2 z hz⟩
theorem Rn.sizes {zs : List D} (h : Rn zs) : ∀ z ∈ zs, z.nm.size ≤ 1048576 ∧ z.ln.size ≤ 1048576 := fun z hz => ⟨Nat.le_trans (h.2 z hz).1 (by decide), Nat.le_trans (h.2 z hz).2 (by decide)⟩
theorem Rn.len {zs : List D} (h : Rn zs) : zs.length ≤ 8 := h.1.1

theorem pump_name {x : ByteArray} (h : x ∈ pumps) : IsName.nameB x = true := by
  unfold pumps at h
  simp only [List.mem_cons, List.not_mem_nil, or_false] at h
  rcases h with h | h <;> subst h <;> exact IsName.nameB_yes (by decide) (by decide) (fun k h1 h2 => by
    have h3 : k = 0 := by have h4 : k < 1 := h1; omega
    subst h3
    exact Or.inl rfl)
/-- The first pump finds its place. -/
theorem first_pump {x : ByteArray} {m : Int} (h : x ∈ pumps) (h0 : 0 ≤ m) (h1 : m < 80) : (adL [] ⟨x, 1, ⟨#[]⟩, 0, 0, 0, 0, m⟩).length = 1 := by
  have hd : dB ⟨x, 1, ⟨#[]⟩, 0, 0, 0, 0, m⟩ = true := by
    unfold dB devB pumpB
    rw [if_pos rfl, pump_name h]
    show (iw m 0 512 && (sb ⟨#[]⟩ ⟨#[]⟩ && zb [0, 0, 0, 0])) = true
    rw [sb_self]
    unfold iw
    simp [zb]
    omega
  have hg : adG [] ⟨x, 1, ⟨#[]⟩, 0, 0, 0, 0, m⟩ = true := by
    unfold adG
    rw [rig_yes Rn.zero.1, hd, show hgV [] 1 (⟨#[]⟩ : ByteArray) = true from hgV_o (by decide) (by decide) _ _]
    rfl
  rw [adL_yes hg]; rfl
theorem adL_more (zs : List D) (d : D) : zs.length ≤ (adL zs d).length := by
  cases h : adG zs d
  · rw [adL_no h]; exact Nat.le_refl _
  · rw [adL_yes h, ins_len]; omega

/-- What stands at every call: the draw goes on, and the names lie there. -/
structure St (w wr : World) (g : Nat) (A : Option Addr) (n c : Nat) (bs : List UInt8) (pb nb : Nat) (ps ns : List ByteArray) : Prop where
  rdy : Ready wr g A n c bs
  gr : w.grownBy wr (some g)
  pc : ∀ j z, ps[j]? = some z → wr.cell? ⟨pb, 0 + j, none⟩ = some (.string z)
  nc : ∀ j z, ns[j]? = some z → wr.cell? ⟨nb, 0 + j, none⟩ = some (.string z)
  pn : pb ≠ g
  nn : nb ≠ g
section
variable {w wr w' : World} {g : Nat} {A : Option Addr} {n c : Nat} {bs : List UInt8} {pb nb : Nat} {ps ns : List ByteArray}
theorem St.next (h : St w wr g A n c bs pb nb ps ns) (k2 : wr.grownBy w' (some g)) (k1 : Cur w' g A n c) : St w w' g A n c bs pb nb ps ns :=
  ⟨h.rdy.next k2 k1, Draw.grown_trans h.gr k2, fun j z hz => k2.cell (h.pc j z hz) (fun e => h.pn (Option.some.inj e)), fun j z hz => k2.cell (h.nc j z hz) (fun e => h.nn (Option.some.inj e)), h.pn, h.nn⟩
theorem St.below (h : St w wr g A n c bs pb nb ps ns) (k : Below wr.heap.size wr w') : St w w' g A n c bs pb nb ps ns :=
  ⟨ready_below h.rdy k, Draw.grown_trans h.gr (gr_below k), fun j z hz => cell_below k (h.pc j z hz), fun j z hz => cell_below k (h.nc j z hz), h.pn, h.nn⟩
theorem St.alloc (h : St w wr g A n c bs pb nb ps ns) (o : Obj) : St w (wr.alloc o) g A n c bs pb nb ps ns := h.below ((Below.refl _ _).alloc (Nat.le_refl _) _)
end
/-- What the draw of a rig leaves. -/
def GotR (w : World) (g : Nat) (A : Option Addr) (n c : Nat) (e : Ending) (w' : World) : Prop :=
  ∃ (zs : List D) (q gr cc : Nat), zs.length = q ∧ 1 ≤ q ∧ Rn zs ∧ e = .returned (.slice (some ⟨gr, 0, none⟩) q cc) ∧ w'.ownsRow w.heap.size 36 8 (.slice (some ⟨gr, 0, none⟩) q cc) q (dls zs) ∧ Cur w' g A n c ∧ w.grownBy w' (some g)

set_option maxRecDepth 100000 in
set_option maxHeartbeats 4000000 in
theorem l6Draw {w : World} {g n c : Nat} {A : Option Addr} {bs : List UInt8} (h : Ready w g A n c bs) :
    Calls Tryz.prog 56 #[.pointer (some ⟨g, 0, none⟩)] w (GotR w g A n c) := by
  have hlt := h.cur.lt
  have hu : undef = Value.tuple #[] := rfl
  have NE := Lib.hid hlt
  have O1 := Lib.hid ((World.ownsRow_lit (base := w.heap.size) (e := 36) (size := 8) w #[] 0 (Nat.le_refl _) (Nat.zero_le _) rfl).alloc (.cells (Strs.strs pumps).toArray 9))
  have T1 := Lib.hid (show St w ((w.alloc (.cells #[] 36)).alloc (.cells (Strs.strs pumps).toArray 9)) g A n c bs (w.heap.size + 1) (w.heap.size + 1) pumps [] from
    ⟨(h.alloc _).alloc _, Draw.grown_trans (World.grownBy_alloc w (.cells #[] 36) (some g)) (World.grownBy_alloc _ (.cells (Strs.strs pumps).toArray 9) (some g)), fun j z hz => by have := cells_str (w.alloc (.cells #[] 36)) pumps 9 j z hz; rw [show (w.alloc (.cells #[] 36)).heap.size = w.heap.size + 1 by simp] at this; exact this, fun j z hz => by simp at hz, by omega, by omega⟩)
  clear h hlt
  go_enter Tryz.func56, Tryz.ntmps56
  go_wp2_with fail
  refine (below T1.out.rdy 2 (by decide) (by decide)).mono ?_
  rintro e w1 ⟨x, hx, rfl, k1, k2⟩
  obtain ⟨x, rfl⟩ : ∃ k : Nat, x = (k : Int) := ⟨x.toNat, by omega⟩
  have T2 := Lib.hid (T1.out.next k2 k1)
  have O2 := Lib.hid (row_next O1.out k2 NE.out)
  clear k1 k2 T1 O1
  have hx2 : x < 2 := by omega
  obtain ⟨np, hnp⟩ : ∃ np, np = 1 + x := ⟨_, rfl⟩
  have e1 : (1 : Int) + (x : Int) = (np : Int) := by omega
  have hnp2 : np ≤ 2 := by omega
  have hnp1 : 1 ≤ np := by omega
  have PL := Lib.hid (show (pumps.take np).length = np by rw [List.length_take]; show min np 2 = np; omega)
  have T2b := Lib.hid (show St w w1 g A n c bs (w.heap.size + 1) (w.heap.size + 1) (pumps.take np) [] from ⟨T2.out.rdy, T2.out.gr, fun j z hz => T2.out.pc j z (by rw [List.getElem?_take] at hz; split at hz; exact hz; cases hz), T2.out.nc, T2.out.pn, T2.out.nn⟩)
  clear hx hnp hx2 T2
  go_wp2_with fail
  clear e1
  go_loopw [3, 18] (fun lv iv wr => ∃ (zs : List D) (q k : Nat), k ≤ np ∧ iv = .int .i64 k ∧ (∃ gr cc : Nat, lv = .slice (some ⟨gr, 0, none⟩) q cc) ∧ Hid (zs.length = q) ∧ Hid (Rn zs ∧ (k = 0 → zs = []) ∧ (0 < k → 1 ≤ zs.length)) ∧ Hid (wr.ownsRow w.heap.size 36 8 lv q (dls zs)) ∧ Hid (St w wr g A n c bs (w.heap.size + 1) (w.heap.size + 1) (pumps.take np) [])) (fun _ i _ => np - (intOf i).toNat)
  case atStart => exact ⟨[], 0, 0, Nat.zero_le _, rfl, ⟨_, _, rfl⟩, Lib.hid rfl, Lib.hid ⟨Rn.zero, fun _ => rfl, fun h => by omega⟩, O2, T2b⟩
  case round =>
    obtain ⟨zs, q, k, hk, rfl, ⟨gr, cc, rfl⟩, ZK, SK, OK, TK⟩ := hrel
    clear O2 T2b
    by_cases hlt : k < np
    · obtain ⟨x9, hx9⟩ : ∃ x, (pumps.take np)[k]? = some x := ⟨_, List.getElem?_eq_getElem (by rw [PL.out]; exact hlt)⟩
      have c1 := TK.out.pc k x9 hx9
      rw [Nat.zero_add] at c1
      have XS := Lib.hid (show x9.size ≤ 8 from small (Or.inl (List.mem_of_mem_take (List.mem_of_getElem? hx9))))
      have XM := Lib.hid (show x9 ∈ pumps from List.mem_of_mem_take (List.mem_of_getElem? hx9))
      clear hx9
      go_wp2_with fail
      refine (below TK.out.rdy 80 (by decide) (by decide)).mono ?_
      rintro e w3 ⟨m, hm, rfl, k1, k2⟩
      have T3 := Lib.hid (TK.out.next k2 k1)
      have O3 := Lib.hid (row_next OK.out k2 NE.out)
      clear k1 k2 TK OK
      have RR := Lib.hid (show Rd w3 w3.heap.size (some ⟨gr, 0, none⟩) (dls zs) from Rd.own O3.out)
      have hq8 : q ≤ 8 := by have := SK.out.1.len; have := ZK.out; omega
      have AD := Lib.hid (addS gr 0 q cc zs x9 1 ⟨#[]⟩ 0 0 0 0 m w3 ZK.out (by omega) SK.out.1.sizes (Nat.le_trans XS.out (by decide)) (Nat.le_trans (show (⟨#[]⟩ : ByteArray).size ≤ 8 by decide) (by decide)) RR.out)
      obtain ⟨L, hL⟩ : ∃ L, adL zs ⟨x9, 1, ⟨#[]⟩, 0, 0, 0, 0, m⟩ = L := ⟨_, rfl⟩
      have SL := Lib.hid (show Rn L ∧ (k + 1 = 0 → L = []) ∧ (0 < k + 1 → 1 ≤ L.length) by rw [← hL]; exact ⟨SK.out.1.next XS.out (show (⟨#[]⟩ : ByteArray).size ≤ 8 by decide), (fun h => by omega), (fun _ => (Nat.eq_zero_or_pos k).elim (fun h => by rw [SK.out.2.1 h, first_pump XM.out hm.1 hm.2]; exact Nat.le_refl _) (fun h => Nat.le_trans (SK.out.2.2 h) (adL_more _ _)))⟩)
      obtain ⟨ag, hag⟩ : ∃ b, adG zs ⟨x9, 1, ⟨#[]⟩, 0, 0, 0, 0, m⟩ = b := ⟨_, rfl⟩
      obtain ⟨q2, hq2⟩ : ∃ q2, L.length = q2 := ⟨_, rfl⟩
      rw [hL, hag] at AD
      unfold RowB at AD
      rw [hq2] at AD
      have HQ2 := Lib.hid hq2
      clear hL hag hq2 RR hq8
      clear hm c1
      go_wp2_with fail
      refine AD.out.mono ?_
      rintro e w4 ⟨g4, c4, rfl, ho, hb⟩
      have O4 := Lib.hid (owns_base ho (Nat.le_trans T3.out.gr.size (ho.lt g4 rfl).1))
      have T4 := Lib.hid (T3.out.below hb)
      clear ho hb AD O3 T3
      go_wp2_with fail
      go_roundw
      case rel => exact ⟨L, q2, k + 1, by omega, by go_num, ⟨_, _, rfl⟩, HQ2, SL, O4, T4⟩
      case measure => simp [intOf]; omega
    · obtain rfl : k = np := by omega
      clear hlt hk
      have LTB := Lib.hid TK.out.gr.size
      have SK2 := Lib.hid (And.intro SK.out.1 (SK.out.2.2 hnp1))
      have TN := Lib.hid (show St w (wr.alloc (.cells (Strs.strs nozzles).toArray 9)) g A n c bs (w.heap.size + 1) wr.heap.size (pumps.take k) nozzles from
        ⟨(TK.out.alloc _).rdy, (TK.out.alloc _).gr, (TK.out.alloc _).pc, cells_str wr nozzles 9, TK.out.pn, by have := TK.out.rdy.cur.lt; omega⟩)
      have ON := Lib.hid (OK.out.alloc (.cells (Strs.strs nozzles).toArray 9))
      clear TK OK
      go_wp2_with fail
      refine (below TN.out.rdy 5 (by decide) (by decide)).mono ?_
      rintro e w1b ⟨y, hy, rfl, k1, k2⟩
      obtain ⟨nn, rfl⟩ : ∃ k : Nat, y = (k : Int) := ⟨y.toNat, by omega⟩
      have T5 := Lib.hid (TN.out.next k2 k1)
      have O5 := Lib.hid (row_next ON.out k2 NE.out)
      clear k1 k2 TN ON
      have hnn4 : nn ≤ 4 := by omega
      obtain ⟨np, hnp⟩ : ∃ np, np = k := ⟨_, rfl⟩
      obtain rfl := hnp
      have NL := Lib.hid (show (nozzles.take nn).length = nn by rw [List.length_take]; show min nn 4 = nn; omega)
      obtain ⟨nb, hnb⟩ : ∃ nb, nb = wr.heap.size := ⟨_, rfl⟩
      have T5b := Lib.hid (show St w w1b g A n c bs (w.heap.size + 1) wr.heap.size (pumps.take np) (nozzles.take nn) from ⟨T5.out.rdy, T5.out.gr, T5.out.pc, fun j z hz => T5.out.nc j z (by rw [List.getElem?_take] at hz; split at hz; exact hz; cases hz), T5.out.pn, T5.out.nn⟩)
      rw [← hnb] at T5b
      clear hy T5
      go_wp2_with fail
      rw [← hnb]
      clear hnb
      go_loopw [3, 38] (fun lv iv wr => ∃ (zs : List D) (q k : Nat), k ≤ nn ∧ iv = .int .i64 k ∧ (∃ gr cc : Nat, lv = .slice (some ⟨gr, 0, none⟩) q cc) ∧ Hid (zs.length = q) ∧ Hid (Rn zs ∧ 1 ≤ zs.length) ∧ Hid (wr.ownsRow w.heap.size 36 8 lv q (dls zs)) ∧ Hid (St w wr g A n c bs (w.heap.size + 1) nb (pumps.take np) (nozzles.take nn))) (fun _ i _ => nn - (intOf i).toNat)
      case atStart => exact ⟨zs, q, 0, Nat.zero_le _, rfl, ⟨_, _, rfl⟩, ZK, SK2, O5, T5b⟩
      case round =>
        clear ZK SK SK2 O5 T5b
        obtain ⟨zs, q, k, hk, rfl, ⟨gr, cc, rfl⟩, ZK, SK, OK, TK⟩ := hrel
        by_cases hlt : k < nn
        · obtain ⟨x9, hx9⟩ : ∃ x, (nozzles.take nn)[k]? = some x := ⟨_, List.getElem?_eq_getElem (by rw [NL.out]; exact hlt)⟩
          have c1 := TK.out.nc k x9 hx9
          rw [Nat.zero_add] at c1
          have XS := Lib.hid (show x9.size ≤ 8 from small (Or.inr (Or.inl (List.mem_of_mem_take (List.mem_of_getElem? hx9)))))
          have P9 := pickS TK.out.rdy (w.heap.size + 1) 0 2 (pumps.take np) TK.out.pn (by rw [PL.out]; exact hnp1) (by rw [PL.out]; omega) TK.out.pc
          rw [PL.out] at P9
          have P9 := Lib.hid P9
          clear hx9
          go_wp2_with fail
          refine P9.out.mono ?_
          rintro e w3 ⟨s9, hs9, rfl, k1, k2⟩
          have T3 := Lib.hid (TK.out.next k2 k1)
          have O3 := Lib.hid (row_next OK.out k2 NE.out)
          clear k1 k2 TK OK
          have XL := Lib.hid (show s9.size ≤ 8 from small (Or.inl (List.mem_of_mem_take hs9)))
          clear hs9 P9
          go_wp2_with fail
          refine (l6Nozzle T3.out.rdy x9 s9).mono ?_
          rintro e w4 ⟨i0, i1, i2, i3, i4, i5, i6, i7, hi, rfl, k1, k2⟩
          have T4 := Lib.hid (T3.out.next k2 k1)
          have O4 := Lib.hid (row_next O3.out k2 NE.out)
          clear k1 k2 T3 O3
          have DN := Lib.hid (show i0.size ≤ 8 by have h9 : i0 = x9 := hi.1; rw [h9]; exact XS.out)
          have DL := Lib.hid (show i2.size ≤ 8 by have h9 : i2 = s9 := hi.2.2.1; rw [h9]; exact XL.out)
          clear hi c1
          have RR := Lib.hid (show Rd w4 w4.heap.size (some ⟨gr, 0, none⟩) (dls zs) from Rd.own O4.out)
          have hq8 : q ≤ 8 := by have := SK.out.1.len; have := ZK.out; omega
          have AD := Lib.hid (addS gr 0 q cc zs i0 i1 i2 i3 i4 i5 i6 i7 w4 ZK.out (by omega) SK.out.1.sizes (Nat.le_trans DN.out (by decide)) (Nat.le_trans DL.out (by decide)) RR.out)
          obtain ⟨L, hL⟩ : ∃ L, adL zs ⟨i0, i1, i2, i3, i4, i5, i6, i7⟩ = L := ⟨_, rfl⟩
          have SL := Lib.hid (show Rn L ∧ 1 ≤ L.length by rw [← hL]; exact ⟨SK.out.1.next DN.out DL.out, Nat.le_trans SK.out.2 (adL_more _ _)⟩)
          obtain ⟨ag, hag⟩ : ∃ b, adG zs ⟨i0, i1, i2, i3, i4, i5, i6, i7⟩ = b := ⟨_, rfl⟩
          obtain ⟨q2, hq2⟩ : ∃ q2, L.length = q2 := ⟨_, rfl⟩
          rw [hL, hag] at AD
          unfold RowB at AD
          rw [hq2] at AD
          have HQ2 := Lib.hid hq2
          clear hL hag hq2 RR hq8
          go_wp2_with fail
          refine AD.out.mono ?_
          rintro e w5 ⟨g4, c4, rfl, ho, hb⟩
          have O5 := Lib.hid (owns_base ho (Nat.le_trans T4.out.gr.size (ho.lt g4 rfl).1))
          have T5 := Lib.hid (T4.out.below hb)
          clear ho hb AD O4 T4
          go_wp2_with fail
          go_roundw
          case rel => exact ⟨L, q2, k + 1, by omega, by go_num, ⟨_, _, rfl⟩, HQ2, SL, O5, T5⟩
          case measure => simp [intOf]; omega
        · obtain rfl : k = nn := by omega
          clear hlt hk
          by_cases h0 : k = 0
          · subst h0
            go_wp2_with fail
            go_ret
            exact ⟨zs, q, gr, cc, ZK.out, by rw [← ZK.out]; exact SK.out.2, SK.out.1, rfl, OK.out, TK.out.rdy.cur, TK.out.gr⟩
          · have hk1 : 1 ≤ k := by omega
            have hkp : (0 : Int) < (k : Int) := by omega
            clear h0
            go_wp2_with fail
            refine (once TK.out.rdy 2 (by decide) (by decide)).mono ?_
            rintro e w3 ⟨bq, rfl, k1, k2⟩
            have T3 := Lib.hid (TK.out.next k2 k1)
            have O3 := Lib.hid (row_next OK.out k2 NE.out)
            clear k1 k2 TK OK
            cases bq
            · go_wp2_with fail
              go_ret
              exact ⟨zs, q, gr, cc, ZK.out, by rw [← ZK.out]; exact SK.out.2, SK.out.1, rfl, O3.out, T3.out.rdy.cur, T3.out.gr⟩
            · have hlt3 := T3.out.rdy.cur.lt
              have T4 := Lib.hid (T3.out.alloc (.cells (Strs.strs lamps).toArray 9))
              have O4 := Lib.hid (O3.out.alloc (.cells (Strs.strs lamps).toArray 9))
              have P9 := Lib.hid (pickS T4.out.rdy w3.heap.size 0 2 lamps (by omega) (by decide) (by decide) (cells_str w3 lamps 9))
              clear T3 O3 hlt3
              go_wp2_with fail
              refine P9.out.mono ?_
              rintro e w5 ⟨x9, hx9, rfl, k1, k2⟩
              have T5 := Lib.hid (T4.out.next k2 k1)
              have O5 := Lib.hid (row_next O4.out k2 NE.out)
              clear k1 k2 T4 O4
              have XS := Lib.hid (show x9.size ≤ 8 from small (Or.inr (Or.inr hx9)))
              clear hx9 P9
              have P9 := pickS T5.out.rdy nb 0 4 (nozzles.take k) T5.out.nn (by rw [NL.out]; exact hk1) (by rw [NL.out]; omega) T5.out.nc
              rw [NL.out] at P9
              have P9 := Lib.hid P9
              go_wp2_with fail
              refine P9.out.mono ?_
              rintro e w6 ⟨s9, hs9, rfl, k1, k2⟩
              have T6 := Lib.hid (T5.out.next k2 k1)
              have O6 := Lib.hid (row_next O5.out k2 NE.out)
              clear k1 k2 T5 O5
              have XL := Lib.hid (show s9.size ≤ 8 from small (Or.inr (Or.inl (List.mem_of_mem_take hs9))))
              clear hs9 P9
              go_wp2_with fail
              refine (l2DrawV T6.out.rdy).mono ?_
              rintro e w7 ⟨px, py, hpx, hpy, rfl, k1, k2⟩
              have T7 := Lib.hid (T6.out.next k2 k1)
              have O7 := Lib.hid (row_next O6.out k2 NE.out)
              clear k1 k2 T6 O6
              clear hpx hpy
              have RR := Lib.hid (show Rd w7 w7.heap.size (some ⟨gr, 0, none⟩) (dls zs) from Rd.own O7.out)
              have hq8 : q ≤ 8 := by have := SK.out.1.len; have := ZK.out; omega
              have AD := Lib.hid (addS gr 0 q cc zs x9 3 s9 px py 0 0 0 w7 ZK.out (by omega) SK.out.1.sizes (Nat.le_trans XS.out (by decide)) (Nat.le_trans XL.out (by decide)) RR.out)
              obtain ⟨L, hL⟩ : ∃ L, adL zs ⟨x9, 3, s9, px, py, 0, 0, 0⟩ = L := ⟨_, rfl⟩
              have SL := Lib.hid (show Rn L ∧ 1 ≤ L.length by rw [← hL]; exact ⟨SK.out.1.next XS.out XL.out, Nat.le_trans SK.out.2 (adL_more _ _)⟩)
              obtain ⟨ag, hag⟩ : ∃ b, adG zs ⟨x9, 3, s9, px, py, 0, 0, 0⟩ = b := ⟨_, rfl⟩
              obtain ⟨q2, hq2⟩ : ∃ q2, L.length = q2 := ⟨_, rfl⟩
              rw [hL, hag] at AD
              unfold RowB at AD
              rw [hq2] at AD
              have HQ2 := Lib.hid hq2
              clear hL hag hq2 RR hq8
              go_wp2_with fail
              refine AD.out.mono ?_
              rintro e w8 ⟨g4, c4, rfl, ho, hb⟩
              have O8 := Lib.hid (owns_base ho (Nat.le_trans T7.out.gr.size (ho.lt g4 rfl).1))
              have T8 := Lib.hid (T7.out.below hb)
              clear ho hb AD O7 T7
              go_wp2_with fail
              go_ret
              exact ⟨L, q2, g4, c4, HQ2.out, by rw [← HQ2.out]; exact SL.out.2, SL.out.1, rfl, O8.out, T8.out.rdy.cur, T8.out.gr⟩

end Go.Proofs.YtokncfhpmjohdabGreat.Dr6
