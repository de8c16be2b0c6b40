/- What the laws do with shows: how much they take, their copies, their comparison. -/
import Derived.Test.YtejeikfgmiadhabGreatM5
import Derived.Test.YtejeikfgmiadhabGreatM6
import Derived.Test.YtejeikfgmiadhabGreatM7
import Derived.Test.YtejeikfgmiadhabGreatRows
import Derived.WalkKit
import Derived.WalkLawsBesides
import Derived.Lib.Hide
import Derived.Test.YtejeikfgmiadhabGreatM4
namespace Go.Proofs.YtejeikfgmiadhabGreat.Sq
open Go.RowKit Go.ChangeShapes Go.WideShapes Go.WideElems Go.Deep Go.Proofs.YtejeikfgmiadhabGreat.Mem Go.Proofs.YtejeikfgmiadhabGreat.Rw Go.Proofs.YtejeikfgmiadhabGreat.P2 Go.Proofs.YtejeikfgmiadhabGreat.Bk Go.Proofs.YtejeikfgmiadhabGreat.Sp
set_option linter.unusedVariables false
set_option linter.unusedSimpArgs false
abbrev D := Dd.D
abbrev C := Cd.C
abbrev G := Int × Int × Int

/-- A show in memory: its three lists can be read. -/
def SR (w : World) (A0 A1 A2 : Option Addr) (ds : List D) (cs : List C) (gs : List G) : Prop := Rd w w.heap.size A0 (Dd.dls ds) ∧ Rd w w.heap.size A1 (Cd.dls cs) ∧ Rd w w.heap.size A2 (Gs.gls gs)
theorem SR.below {w w' : World} {A0 A1 A2 : Option Addr} {ds : List D} {cs : List C} {gs : List G} (h : SR w A0 A1 A2 ds cs gs) (hb : Below w.heap.size w w') : SR w' A0 A1 A2 ds cs gs :=
  ⟨(h.1.below hb).more hb.size, (h.2.1.below hb).more hb.size, (h.2.2.below hb).more hb.size⟩
section
variable {w w' : World} {A0 A1 A2 : Option Addr} {ds : List D} {cs : List C} {gs : List G}
theorem SR.r0 (h : SR w A0 A1 A2 ds cs gs) : Rd w w.heap.size A0 (Dd.dls ds) := h.1
theorem SR.r1 (h : SR w A0 A1 A2 ds cs gs) : Rd w w.heap.size A1 (Cd.dls cs) := h.2.1
theorem SR.r2 (h : SR w A0 A1 A2 ds cs gs) : Rd w w.heap.size A2 (Gs.gls gs) := h.2.2
theorem SR.at (h : SR w A0 A1 A2 ds cs gs) {B : Nat} (hB : w.heap.size ≤ B) (hb : Below w.heap.size w w') (hB2 : B ≤ w'.heap.size) : SR w' A0 A1 A2 ds cs gs := h.below hb
end
theorem SR.own {w : World} {base g0 g1 g2 n0 n1 n2 c0 c1 c2 : Nat} {ds : List D} {cs : List C} {gs : List G} {e0 e1 e2 : TypeId} {s0 s1 s2 : Nat}
    (h0 : w.ownsRow base e0 s0 (.slice (some ⟨g0, 0, none⟩) n0 c0) n0 (Dd.dls ds)) (h1 : w.ownsRow base e1 s1 (.slice (some ⟨g1, 0, none⟩) n1 c1) n1 (Cd.dls cs)) (h2 : w.ownsRow base e2 s2 (.slice (some ⟨g2, 0, none⟩) n2 c2) n2 (Gs.gls gs)) :
    SR w (some ⟨g0, 0, none⟩) (some ⟨g1, 0, none⟩) (some ⟨g2, 0, none⟩) ds cs gs := ⟨Rd.own h0, Rd.own h1, Rd.own h2⟩
/-- How many there are of each. -/
def Fit (n0 n1 n2 : Nat) (ds : List D) (cs : List C) (gs : List G) : Prop := (ds.length = n0 ∧ n0 ≤ 1048576) ∧ (cs.length = n1 ∧ n1 ≤ 1048576) ∧ (gs.length = n2 ∧ n2 ≤ 1048576)

theorem ret_int {a b : Int} (h : a = b) : Ending.returned (.int .i64 a) = .returned (.int .i64 b) := by rw [h]
/-- What is left behind a show. -/
def szA (n0 : Nat) (ds : List D) (n1 : Nat) (cs : List C) (n2 : Nat) : Int :=
  if Dl.szV n0 ds < 0 then -1 else if Cl.szW (Dl.szV n0 ds) n1 cs < 0 then -1 else if Cl.szW (Dl.szV n0 ds) n1 cs - (n2 : Int) < 0 then -1 else Cl.szW (Dl.szV n0 ds) n1 cs - (n2 : Int)
theorem szV_le (n : Nat) (zs : List D) : Dl.szV n zs ≤ 1048576 - n - Dl.bulk zs ∨ Dl.szV n zs = -1 := by
  unfold Dl.szV; split
  · exact Or.inr rfl
  · exact Or.inl (Int.le_refl _)
theorem szW_le (L : Int) (n : Nat) (zs : List C) : Cl.szW L n zs = L - n - Cl.bulk zs ∨ Cl.szW L n zs = -1 := by
  unfold Cl.szW; split
  · exact Or.inr rfl
  · exact Or.inl rfl
/-- What is known where enough is left. -/
theorem sz_fit {n0 : Nat} {ds : List D} {n1 : Nat} {cs : List C} {n2 : Nat} (h : ¬ szA n0 ds n1 cs n2 < 0) : n0 + n1 + n2 ≤ 1048576 ∧ Dl.bulk ds ≤ 1048576 ∧ Cl.bulk cs ≤ 1048576 := by
  unfold szA at h
  split at h
  · exact absurd (by decide) h
  split at h
  · exact absurd (by decide) h
  split at h
  · exact absurd (by decide) h
  have a := szV_le n0 ds
  have b := szW_le (Dl.szV n0 ds) n1 cs
  omega

set_option maxRecDepth 100000 in
set_option maxHeartbeats 2000000 in
theorem szShow (A0 : Option Addr) (n0 c0 : Nat) (A1 : Option Addr) (n1 c1 : Nat) (A2 : Option Addr) (n2 c2 : Nat) (T : Int) (ds : List D) (cs : List C) (gs : List G) (w : World)
    (hn0 : ds.length = n0) (hm0 : n0 ≤ maxLen) (hn1 : cs.length = n1) (hm1 : n1 ≤ maxLen) (hm2 : n2 ≤ maxLen) (hr : SR w A0 A1 A2 ds cs gs) (h0 : ∀ z ∈ ds, Dd.Dok z) (h1 : ∀ z ∈ cs, Cd.Dok z) :
    Calls Tryz.prog 7 #[sv A0 n0 c0 A1 n1 c1 A2 n2 c2 T, .int .i64 1048576] w fun e w' => e = .returned (.int .i64 (szA n0 ds n1 cs n2)) ∧ Below w.heap.size w w' := by
  have K := Bk.new w (sc A0 n0 c0 A1 n1 c1 A2 n2 c2 T) 26
  have B0 := (Below.refl w.heap.size w).alloc (Nat.le_refl _) (.cells (sc A0 n0 c0 A1 n1 c1 A2 n2 c2 T) 26)
  have S0 := hr.below B0
  have C0 := Lib.hid (Dl.szDeviceS A0 n0 c0 ds _ hn0 hm0 S0.1 h0)
  have e1 := szV_le n0 ds
  obtain ⟨V, hV⟩ : ∃ V, szA n0 ds n1 cs n2 = V := ⟨_, rfl⟩
  rw [hV]
  unfold szA at hV
  obtain ⟨L0, hL0⟩ : ∃ L, Dl.szV n0 ds = L := ⟨_, rfl⟩
  rw [hL0] at C0 e1 hV
  obtain ⟨L1, hL1⟩ : ∃ L, Cl.szW L0 n1 cs = L := ⟨_, rfl⟩
  have e2 := szW_le L0 n1 cs
  rw [hL1] at hV e2
  have HA := Lib.hid hV.symm
  clear hV
  have HK := Lib.hid K
  have HB := Lib.hid B0
  have HS := Lib.hid S0
  have E1 := Lib.hid e1
  have E2 := Lib.hid e2
  clear K B0 S0 hr e1 e2
  go_enter Tryz.func7, Tryz.ntmps7
  go_wp2_with fail
  refine C0.out.mono ?_
  rintro e w1 ⟨rfl, hb⟩
  have K1 := HK.out.below hb
  have S1 := HS.out.below hb
  have BB := Lib.hid (HB.out.trans (hb.mono HB.out.size))
  by_cases g0 : L0 < 0
  · clear hb C0 HK HB HS K1 S1
    go_wp2_with fail
    go_ret
    exact ⟨ret_int (by rw [HA.out, if_pos g0]), BB.out⟩
  have y1 := K1.cell (i := 1) rfl
  have C1 := Lib.hid (Cl.szCueW A1 n1 c1 cs L0 w1 (by omega) (by have := E1.out; omega) hn1 hm1 S1.2.1 h1)
  rw [hL1] at C1
  have K1' := Lib.hid K1
  clear hb C0 HK HB HS K1 S1
  go_wp2_with fail
  refine C1.out.mono ?_
  rintro e w2 ⟨rfl, hb⟩
  have K2 := K1'.out.below hb
  have B2 := Lib.hid (BB.out.trans (hb.mono BB.out.size))
  have y2 := K2.cell (i := 2) rfl
  clear hb C1 y1 K2 K1' BB
  by_cases g1 : L1 < 0
  · go_wp2_with fail
    go_ret
    exact ⟨ret_int (by rw [HA.out, if_neg (show ¬ L0 < 0 by omega), if_pos g1]), B2.out⟩
  have hle : L1 ≤ 1048576 := by have := E1.out; have := E2.out; omega
  by_cases g2 : L1 - (n2 : Int) < 0
  · have C2 := Lib.hid (SzG.no A2 n2 c2 L1 (by omega) hle hm2 g2 w2)
    go_wp2_with fail
    refine C2.out.mono ?_
    rintro e w3 ⟨rfl, rfl⟩
    go_wp2_with fail
    go_ret
    exact ⟨ret_int (by rw [HA.out, if_neg (show ¬ L0 < 0 by omega), if_neg (show ¬ L1 < 0 by omega), if_pos g2]), B2.out⟩
  · obtain ⟨R, hR⟩ : ∃ R, L1 - (n2 : Int) = R := ⟨_, rfl⟩
    have C2 := Lib.hid (SzG.yes A2 n2 c2 L1 R hle (by omega) hR w2)
    rw [hR] at HA
    have g3 : ¬ R < 0 := by omega
    clear hR
    go_wp2_with fail
    refine C2.out.mono ?_
    rintro e w3 ⟨rfl, rfl⟩
    go_wp2_with fail
    go_ret
    exact ⟨ret_int (by rw [HA.out, if_neg (show ¬ L0 < 0 by omega), if_neg (show ¬ L1 < 0 by omega), if_neg (show ¬ R < 0 by omega)]), B2.out⟩

set_option maxRecDepth 100000 in
set_option maxHeartbeats 2000000 in
theorem eqShow (A0 : Option Addr) (n0 c0 : Nat) (A1 : Option Addr) (n1 c1 : Nat) (A2 : Option Addr) (n2 c2 : Nat) (T : Int) (B0 : Option Addr) (d0 : Nat) (B1 : Option Addr) (d1 : Nat) (B2 : Option Addr) (d2 : Nat)
    (ds : List D) (cs : List C) (gs : List G) (w : World) (hf : Fit n0 n1 n2 ds cs gs) (hr : SR w A0 A1 A2 ds cs gs) (hs : SR w B0 B1 B2 ds cs gs) :
    Calls Tryz.prog 14 #[sv A0 n0 c0 A1 n1 c1 A2 n2 c2 T, sv B0 n0 d0 B1 n1 d1 B2 n2 d2 T] w fun e w' => e = .returned (.bool true) ∧ Below w.heap.size w w' := by
  obtain ⟨⟨hn0, hb0⟩, ⟨hn1, hb1⟩, hn2, hb2⟩ := hf
  have BA := (Below.refl w.heap.size w).alloc (Nat.le_refl _) (.cells (sc A0 n0 c0 A1 n1 c1 A2 n2 c2 T) 40)
  have BV := BA.alloc BA.size (.cells (sc B0 n0 d0 B1 n1 d1 B2 n2 d2 T) 40)
  have KA := Lib.hid ((Bk.new w (sc A0 n0 c0 A1 n1 c1 A2 n2 c2 T) 40).alloc (o := .cells (sc B0 n0 d0 B1 n1 d1 B2 n2 d2 T) 40))
  have KB := Lib.hid (Bk.new (w.alloc (.cells (sc A0 n0 c0 A1 n1 c1 A2 n2 c2 T) 40)) (sc B0 n0 d0 B1 n1 d1 B2 n2 d2 T) 40)
  have RA := Lib.hid (hr.below BV)
  have RB := Lib.hid (hs.below BV)
  have BB := Lib.hid BV
  have hz : (w.alloc (.cells (sc A0 n0 c0 A1 n1 c1 A2 n2 c2 T) 40)).heap.size = w.heap.size + 1 := by simp [go_sem]
  clear BA BV hr hs
  go_enter Tryz.func14, Tryz.ntmps14
  go_wp2_with fail
  refine (Dl.eqDeviceS A0 B0 n0 c0 d0 ds _ _ hn0 hb0 (Nat.le_refl _) RA.out.1 RB.out.1).mono ?_
  rintro e w1 ⟨rfl, hb⟩
  have KA1 := Lib.hid (KA.out.below hb)
  have KB1 := Lib.hid (KB.out.below hb)
  have RA1 := Lib.hid (RA.out.below hb)
  have RB1 := Lib.hid (RB.out.below hb)
  have BB1 := Lib.hid (BB.out.trans (hb.mono BB.out.size))
  have y1 := KA1.out.cell (i := 1) rfl
  have z1 := KB1.out.cell (i := 1) rfl
  rw [hz] at z1
  clear hb KA KB RA RB BB
  go_wp2_with fail
  refine (Cl.eqCueS A1 B1 n1 c1 d1 cs _ _ hn1 hb1 (Nat.le_refl _) RA1.out.2.1 RB1.out.2.1).mono ?_
  rintro e w2 ⟨rfl, hb⟩
  have KA2 := Lib.hid (KA1.out.below hb)
  have KB2 := Lib.hid (KB1.out.below hb)
  have RA2 := Lib.hid (RA1.out.below hb)
  have RB2 := Lib.hid (RB1.out.below hb)
  have BB2 := Lib.hid (BB1.out.trans (hb.mono BB1.out.size))
  have y2 := KA2.out.cell (i := 2) rfl
  have z2 := KB2.out.cell (i := 2) rfl
  rw [hz] at z2
  clear hb KA1 KB1 RA1 RB1 BB1 y1 z1
  go_wp2_with fail
  refine (Gs.eqGustS A2 B2 n2 c2 d2 gs _ _ hn2 hb2 (Nat.le_refl _) RA2.out.2.2 RB2.out.2.2).mono ?_
  rintro e w3 ⟨rfl, hb⟩
  have y3 := (KA2.out.below hb).cell (i := 3) rfl
  have z3 := (KB2.out.below hb).cell (i := 3) rfl
  rw [hz] at z3
  have BB3 := Lib.hid (BB2.out.trans (hb.mono BB2.out.size))
  clear hb KA2 KB2 RA2 RB2 BB2 y2 z2
  go_wp2_with fail
  go_ret
  exact ⟨rfl, BB3.out⟩
end Go.Proofs.YtejeikfgmiadhabGreat.Sq
namespace Go.Proofs.YtejeikfgmiadhabGreat.IsName
open Go.RowKit

def letter (c : UInt8) : Bool := decide (97 ≤ c.toNat ∧ c.toNat ≤ 122)
def digit (c : UInt8) : Bool := decide (48 ≤ c.toNat ∧ c.toNat ≤ 57)
def okAt (s : ByteArray) (k : Nat) (h : k < s.size) : Prop := letter s[k] = true ∨ digit s[k] = true ∧ k ≠ 0
def allOk (s : ByteArray) (n : Nat) : Prop := ∀ (k : Nat) (h : k < s.size), k < n → okAt s k h
def Name (s : ByteArray) : Prop := 1 ≤ s.size ∧ s.size ≤ 8 ∧ allOk s s.size
noncomputable def nameB (s : ByteArray) : Bool := @decide (Name s) (Classical.propDecidable _)

theorem nameB_yes {s : ByteArray} (h1 : 1 ≤ s.size) (h2 : s.size ≤ 8) (h : allOk s s.size) : nameB s = true := by
  unfold nameB; exact @decide_eq_true _ (Classical.propDecidable _) ⟨h1, h2, h⟩
theorem nameB_len {s : ByteArray} (h : s.size < 1 ∨ 8 < s.size) : nameB s = false := by
  unfold nameB; exact @decide_eq_false _ (Classical.propDecidable _) fun c => by have := c.1; have := c.2.1; omega
theorem nameB_no {s : ByteArray} {k : Nat} (hk : k < s.size) (h : ¬ okAt s k hk) : nameB s = false := by
  unfold nameB; exact @decide_eq_false _ (Classical.propDecidable _) fun c => h (c.2.2 k hk hk)
theorem allOk_zero (s : ByteArray) : allOk s 0 := fun _ _ h => absurd h (Nat.not_lt_zero _)
theorem allOk_succ {s : ByteArray} {k : Nat} (hk : k < s.size) (h : allOk s k) (ho : okAt s k hk) : allOk s (k + 1) := fun j hj hl => by
  by_cases e : j = k
  · subst e; exact ho
  · exact h j hj (by omega)
theorem ret_bool {a b : Bool} (h : a = b) : Ending.returned (.bool a) = .returned (.bool b) := by rw [h]

theorem isLetter (c : UInt8) (w : World) : Calls Tryz.prog 179 #[.int .u8 c.toNat] w fun e w' => e = .returned (.bool (letter c)) ∧ w = w' := by
  by_cases h1 : 97 ≤ c.toNat
  · by_cases h2 : c.toNat ≤ 122
    · have e : letter c = true := decide_eq_true ⟨h1, h2⟩
      have d : decide ((c.toNat : Int) ≤ 122) = true := decide_eq_true (by omega)
      rw [e]; clear e
      go_enter Tryz.func179, Tryz.ntmps179
      go_wp2
      go_ret
      exact ⟨rfl, rfl⟩
    · have e : letter c = false := decide_eq_false (by omega)
      have d : decide ((c.toNat : Int) ≤ 122) = false := decide_eq_false (by omega)
      rw [e]; clear e
      go_enter Tryz.func179, Tryz.ntmps179
      go_wp2
      go_ret
      exact ⟨rfl, rfl⟩
  · have e : letter c = false := decide_eq_false (by omega)
    have d : decide (97 ≤ (c.toNat : Int)) = false := decide_eq_false (by omega)
    rw [e]; clear e
    go_enter Tryz.func179, Tryz.ntmps179
    go_wp2
    go_ret
    exact ⟨rfl, rfl⟩

theorem isDigit (c : UInt8) (w : World) : Calls Tryz.prog 180 #[.int .u8 c.toNat] w fun e w' => e = .returned (.bool (digit c)) ∧ w = w' := by
  by_cases h1 : 48 ≤ c.toNat
  · by_cases h2 : c.toNat ≤ 57
    · have e : digit c = true := decide_eq_true ⟨h1, h2⟩
      have d : decide ((c.toNat : Int) ≤ 57) = true := decide_eq_true (by omega)
      rw [e]; clear e
      go_enter Tryz.func180, Tryz.ntmps180
      go_wp2
      go_ret
      exact ⟨rfl, rfl⟩
    · have e : digit c = false := decide_eq_false (by omega)
      have d : decide ((c.toNat : Int) ≤ 57) = false := decide_eq_false (by omega)
      rw [e]; clear e
      go_enter Tryz.func180, Tryz.ntmps180
      go_wp2
      go_ret
      exact ⟨rfl, rfl⟩
  · have e : digit c = false := decide_eq_false (by omega)
    have d : decide (48 ≤ (c.toNat : Int)) = false := decide_eq_false (by omega)
    rw [e]; clear e
    go_enter Tryz.func180, Tryz.ntmps180
    go_wp2
    go_ret
    exact ⟨rfl, rfl⟩

set_option maxHeartbeats 1000000 in
theorem impl (s : ByteArray) (w : World) : Calls Tryz.prog 151 #[.string s] w fun e w' => e = .returned (.bool (nameB s)) ∧ w = w' := by
  by_cases h0 : s.size < 1
  · have F := Lib.hid (nameB_len (Or.inl h0))
    go_enter Tryz.func151, Tryz.ntmps151
    go_wp2
    go_ret
    exact ⟨ret_bool F.out.symm, rfl⟩
  · by_cases h8 : 8 < s.size
    · have F := Lib.hid (nameB_len (Or.inr h8))
      have d0 : decide ((s.size : Int) < 1) = false := decide_eq_false (by omega)
      go_enter Tryz.func151, Tryz.ntmps151
      go_wp2
      go_ret
      exact ⟨ret_bool F.out.symm, rfl⟩
    · have d0 : decide ((s.size : Int) < 1) = false := decide_eq_false (by omega)
      have d8 : decide (8 < (s.size : Int)) = false := decide_eq_false (by omega)
      have h1 : 1 ≤ s.size := by omega
      have h8' : s.size ≤ 8 := by omega
      have hp : 0 < s.size := by omega
      clear h0 h8
      by_cases hl : letter s[0] = true
      · go_enter Tryz.func151, Tryz.ntmps151
        go_wp2_with (go_at_call 179; refine (isLetter _ _).mono ?_; rintro e w' ⟨rfl, rfl⟩)
        go_loop [20] (fun i => ∃ k : Nat, k ≤ s.size ∧ allOk s k ∧ i = .int .i64 k) (fun i => s.size - (intOf i).toNat)
        case atStart => exact ⟨0, by omega, allOk_zero s, rfl⟩
        case round =>
          obtain ⟨k, hk, hall, rfl⟩ := hrel
          have HA := Lib.hid hall
          clear hall
          by_cases hlt : k < s.size
          · by_cases hlk : letter s[k] = true
            · go_wp2_with (go_at_call 179; refine (isLetter _ _).mono ?_; rintro e w' ⟨rfl, rfl⟩)
              go_round
              case rel => exact ⟨k + 1, by omega, allOk_succ hlt HA.out (Or.inl hlk), by go_num⟩
              case measure => simp [intOf]; omega
            · have hlk' : letter s[k] = false := by simpa using hlk
              by_cases hdk : digit s[k] = true
              · have hk0 : k ≠ 0 := fun c => by subst c; rw [hl] at hlk'; cases hlk'
                have HK0 := Lib.hid hk0
                clear hlk hk0
                go_wp2_with (first
                  | (go_at_call 179; refine (isLetter _ _).mono ?_; rintro e w' ⟨rfl, rfl⟩)
                  | (go_at_call 180; refine (isDigit _ _).mono ?_; rintro e w' ⟨rfl, rfl⟩))
                go_round
                case rel => exact ⟨k + 1, by omega, allOk_succ hlt HA.out (Or.inr ⟨hdk, HK0.out⟩), by go_num⟩
                case measure => simp [intOf]; omega
              · have hdk' : digit s[k] = false := by simpa using hdk
                have F := Lib.hid (nameB_no (s := s) (k := k) hlt (by unfold okAt; simp [hlk', hdk']))
                clear hlk hdk
                go_wp2_with (first
                  | (go_at_call 179; refine (isLetter _ _).mono ?_; rintro e w' ⟨rfl, rfl⟩)
                  | (go_at_call 180; refine (isDigit _ _).mono ?_; rintro e w' ⟨rfl, rfl⟩))
                go_ret
                exact ⟨ret_bool F.out.symm, rfl⟩
          · obtain rfl : k = s.size := by omega
            have F := Lib.hid (nameB_yes h1 h8' HA.out)
            go_wp2
            go_ret
            exact ⟨ret_bool F.out.symm, rfl⟩
      · have hl' : letter s[0] = false := by simpa using hl
        have F := Lib.hid (nameB_no (s := s) (k := 0) h1 (by unfold okAt; simp [hl']))
        clear hl
        go_enter Tryz.func151, Tryz.ntmps151
        go_wp2_with (go_at_call 179; refine (isLetter _ _).mono ?_; rintro e w' ⟨rfl, rfl⟩)
        go_ret
        exact ⟨ret_bool F.out.symm, rfl⟩

set_option maxHeartbeats 2000000 in
theorem spec (s : ByteArray) (hs : s.size ≤ 1048576) (w : World) : Calls Tryz.prog 144 #[.string s] w fun e w' => e = .returned (.bool (nameB s)) ∧ w = w' := by
  go_enter Tryz.func144, Tryz.ntmps144
  go_wp2
  go_loop [3] (fun i => ∃ k : Nat, k ≤ s.size ∧ allOk s k ∧ i = .int .i64 k) (fun i => s.size - (intOf i).toNat)
  case atStart => exact ⟨0, by omega, allOk_zero s, rfl⟩
  case round =>
    obtain ⟨k, hk, hall, rfl⟩ := hrel
    have HA := Lib.hid hall
    clear hall
    by_cases hlt : k < s.size
    · by_cases hlk : letter s[k] = true
      · have hc := of_decide_eq_true hlk
        have HR := Lib.hid (allOk_succ hlt HA.out (Or.inl hlk))
        have d1 : decide (97 ≤ (s[k].toNat : Int)) = true := decide_eq_true (by omega)
        have d2 : decide ((s[k].toNat : Int) ≤ 122) = true := decide_eq_true (by omega)
        have d3 : decide (48 ≤ (s[k].toNat : Int)) = true := decide_eq_true (by omega)
        have d4 : decide ((s[k].toNat : Int) ≤ 57) = false := decide_eq_false (by omega)
        clear hlk HA
        obtain ⟨hc1, hc2⟩ := hc
        go_wp2
        go_round
        case rel => exact ⟨k + 1, by omega, HR.out, by go_num⟩
        case measure => simp [intOf]; omega
      · have hlk' : letter s[k] = false := by simpa using hlk
        have hc := of_decide_eq_false hlk'
        by_cases hdk : digit s[k] = true
        · have hd := of_decide_eq_true hdk
          have d1 : decide (97 ≤ (s[k].toNat : Int)) = false := decide_eq_false (by omega)
          have d3 : decide (48 ≤ (s[k].toNat : Int)) = true := decide_eq_true (by omega)
          have d4 : decide ((s[k].toNat : Int) ≤ 57) = true := decide_eq_true (by omega)
          obtain ⟨hd1, hd2⟩ := hd
          by_cases hk0 : k = 0
          · have F := Lib.hid (nameB_no (s := s) (k := k) hlt (by
              rintro (c | ⟨_, c⟩)
              · rw [hlk'] at c; cases c
              · exact c hk0))
            have z : ((k : Int) == 0) = true := by simp [hk0]
            clear hlk hlk' hdk hc HA hk0
            go_wp2
            go_ret
            exact ⟨ret_bool F.out.symm, rfl⟩
          · have HR := Lib.hid (allOk_succ hlt HA.out (Or.inr ⟨hdk, hk0⟩))
            have z : ((k : Int) == 0) = false := by simp [hk0]
            clear hlk hlk' hdk hc HA hk0
            go_wp2
            go_round
            case rel => exact ⟨k + 1, by omega, HR.out, by go_num⟩
            case measure => simp [intOf]; omega
        · have hdk' : digit s[k] = false := by simpa using hdk
          have hd := of_decide_eq_false hdk'
          have F := Lib.hid (nameB_no (s := s) (k := k) hlt (by unfold okAt; simp [hlk', hdk']))
          clear hlk hlk' hdk hdk' HA
          by_cases c1 : 97 ≤ s[k].toNat
          · have d1 : decide (97 ≤ (s[k].toNat : Int)) = true := decide_eq_true (by omega)
            have d2 : decide ((s[k].toNat : Int) ≤ 122) = false := decide_eq_false (by omega)
            have d3 : decide (48 ≤ (s[k].toNat : Int)) = true := decide_eq_true (by omega)
            have d4 : decide ((s[k].toNat : Int) ≤ 57) = false := decide_eq_false (by omega)
            clear hc hd
            go_wp2
            go_ret
            exact ⟨ret_bool F.out.symm, rfl⟩
          · have d1 : decide (97 ≤ (s[k].toNat : Int)) = false := decide_eq_false (by omega)
            by_cases c2 : 48 ≤ s[k].toNat
            · have d3 : decide (48 ≤ (s[k].toNat : Int)) = true := decide_eq_true (by omega)
              have d4 : decide ((s[k].toNat : Int) ≤ 57) = false := decide_eq_false (by omega)
              clear hc hd
              go_wp2
              go_ret
              exact ⟨ret_bool F.out.symm, rfl⟩
            · have d3 : decide (48 ≤ (s[k].toNat : Int)) = false := decide_eq_false (by omega)
              clear hc hd
              go_wp2
              go_ret
              exact ⟨ret_bool F.out.symm, rfl⟩
    · obtain rfl : k = s.size := by omega
      by_cases h0 : s.size < 1
      · have F := Lib.hid (nameB_len (Or.inl h0))
        have d : decide (0 < (s.size : Int)) = false := decide_eq_false (by omega)
        go_wp2
        go_ret
        exact ⟨ret_bool F.out.symm, rfl⟩
      · have d : decide (0 < (s.size : Int)) = true := decide_eq_true (by omega)
        by_cases h8 : 8 < s.size
        · have F := Lib.hid (nameB_len (Or.inr h8))
          have d8 : decide ((s.size : Int) ≤ 8) = false := decide_eq_false (by omega)
          go_wp2
          go_ret
          exact ⟨ret_bool F.out.symm, rfl⟩
        · have F := Lib.hid (nameB_yes (by omega) (by omega) HA.out)
          have d8 : decide ((s.size : Int) ≤ 8) = true := decide_eq_true (by omega)
          go_wp2
          go_ret
          exact ⟨ret_bool F.out.symm, rfl⟩

end Go.Proofs.YtejeikfgmiadhabGreat.IsName
namespace Go.Proofs.YtejeikfgmiadhabGreat.P2
open Go.RowKit Go.Proofs.YtejeikfgmiadhabGreat.Cm Go.Proofs.YtejeikfgmiadhabGreat.Pl Go.Proofs.YtejeikfgmiadhabGreat.Str Go.Proofs.YtejeikfgmiadhabGreat.Pw
set_option linter.unusedVariables false

end Go.Proofs.YtejeikfgmiadhabGreat.P2
namespace Go.Proofs.YtejeikfgmiadhabGreat.Jt
open Go.RowKit
set_option linter.unusedVariables false
set_option linter.unusedSimpArgs false

def iw (x a b : Int) : Bool := decide (a ≤ x) && decide (x ≤ b)
theorem iw_iff {x a b : Int} : iw x a b = true ↔ a ≤ x ∧ x ≤ b := by unfold iw; rw [Bool.and_eq_true, decide_eq_true_eq, decide_eq_true_eq]
theorem iw_yes {x a b : Int} (h : a ≤ x ∧ x ≤ b) : iw x a b = true := iw_iff.2 h
theorem iw_no {x a b : Int} (h : x < a ∨ b < x) : iw x a b = false := by
  rw [← Bool.not_eq_true, iw_iff]; omega

theorem isWithin (x a b : Int) (w : World) : Calls Tryz.prog 86 #[.int .i64 x, .int .i64 a, .int .i64 b] w fun e w' => e = .returned (.bool (iw x a b)) ∧ w = w' := by
  go_enter Tryz.func86, Tryz.ntmps86
  go_wp2
  all_goals go_returns
  · rename_i h
    refine ⟨?_, rfl⟩
    show Ending.returned (.bool (decide (x ≤ b))) = _
    unfold iw; rw [decide_eq_true h]; rfl
  · rename_i h
    refine ⟨?_, rfl⟩
    show Ending.returned (.bool false) = _
    rw [iw_no (by omega)]
theorem l1In (x a b : Int) (w : World) : Calls Tryz.prog 71 #[.int .i64 x, .int .i64 a, .int .i64 b] w fun e w' => e = .returned (.bool (iw x a b)) ∧ w = w' := by
  go_enter Tryz.func71, Tryz.ntmps71
  go_wp2
  all_goals go_returns
  · rename_i h
    refine ⟨?_, rfl⟩
    show Ending.returned (.bool (decide (x ≤ b))) = _
    unfold iw; rw [decide_eq_true h]; rfl
  · rename_i h
    refine ⟨?_, rfl⟩
    show Ending.returned (.bool false) = _
    rw [iw_no (by omega)]

theorem isWithin_of {x a b : Int} {r : Bool} (e : iw x a b = r) (w : World) : Calls Tryz.prog 86 #[.int .i64 x, .int .i64 a, .int .i64 b] w fun e w' => e = .returned (.bool r) ∧ w = w' := e ▸ isWithin x a b w
theorem l1In_of {x a b : Int} {r : Bool} (e : iw x a b = r) (w : World) : Calls Tryz.prog 71 #[.int .i64 x, .int .i64 a, .int .i64 b] w fun e w' => e = .returned (.bool r) ∧ w = w' := e ▸ l1In x a b w

end Go.Proofs.YtejeikfgmiadhabGreat.Jt
