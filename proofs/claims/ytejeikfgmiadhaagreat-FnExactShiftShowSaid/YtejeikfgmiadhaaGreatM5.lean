/- A block of cells of the call's own: what it holds, and that it stays so. -/
import Derived.Test.YtejeikfgmiadhaaGreatM2
import Derived.Test.YtejeikfgmiadhaaGreatM1
import Derived.Test.YtejeikfgmiadhaaGreatM3
import Derived.Test.YtejeikfgmiadhaaGreatM4
import Derived.Deep.DeepCutAuto
import Derived.Laws.BytesArg
import Derived.Lib.ItoaNum
import Derived.Lib.Strings
import Derived.Laws.Concat
import Derived.WalkSmall
import Derived.Lib.LaidTab
namespace Go.Proofs.YtejeikfgmiadhaaGreat.Bk
open Go.RowKit Go.Proofs.YtejeikfgmiadhaaGreat.Mem Go.Proofs.YtejeikfgmiadhaaGreat.P2
set_option linter.unusedVariables false

/-- Block b holds these cells. -/
def Bk (w : World) (b : Nat) (c : Array Value) (T : TypeId) : Prop := w.heap[b]? = some (.cells c T (0, 0))
section
variable {w w' : World} {b b' i : Nat} {c : Array Value} {T : TypeId} {v : Value}
theorem Bk.cell (k : Bk w b c T) (h : c[i]? = some v) : w.cell? ⟨b, i, none⟩ = some v := by simp [World.cell?, show w.heap[b]? = _ from k, h]
theorem Bk.frozen (k : Bk w b c T) (i : Nat) : w.frozen? ⟨b, i, none⟩ = false := by simp [World.frozen?, show w.heap[b]? = _ from k]
theorem Bk.lt (k : Bk w b c T) : b < w.heap.size := (Array.getElem?_eq_some_iff.1 k).1
theorem Bk.drew (k : Bk w b c T) : Bk w.drew b c T := k
theorem Bk.drewN (k : Bk w b c T) : ∀ n, Bk (w.drewN n) b c T
  | 0 => k
  | n + 1 => Bk.drewN k n
theorem Bk.new (w : World) (c : Array Value) (T : TypeId) : Bk (w.alloc (.cells c T)) w.heap.size c T := heap_alloc_new w _
theorem Bk.below (k : Bk w b c T) (hb : Below w.heap.size w w') : Bk w' b c T := (hb.block b k.lt).trans k
theorem Bk.alloc {o : Obj} (k : Bk w b c T) : Bk (w.alloc o) b c T := k.below ((Below.refl _ _).alloc (Nat.le_refl _) _)
theorem Bk.grown {r : Option Nat} (k : Bk w b c T) (g : w.grownBy w' r) (hr : r ≠ some b) : Bk w' b c T := (g.block b k.lt (fun e => hr e.symm)).trans k
theorem Bk.set (k : Bk w b c T) : Bk (w.setCell ⟨b, i, none⟩ v) b (c.setIfInBounds i v) T := by
  obtain ⟨hlt, hk⟩ := Array.getElem?_eq_some_iff.1 k
  show (w.heap.modify b _)[b]? = _
  rw [Array.getElem?_eq_getElem (by rw [Array.size_modify]; exact hlt), Array.getElem_modify_self, hk]
  rfl
theorem Bk.far (e : b' ≠ b) (k : Bk w b c T) : Bk (w.setCell ⟨b', i, none⟩ v) b c T := by
  show (w.heap.modify b' _)[b]? = _
  rw [Array.getElem?_modify, if_neg e]; exact k
end

theorem Bk.setG (w : World) (b i : Nat) (v : Value) : w.grownBy (w.setCell ⟨b, i, none⟩ v) (some b) :=
  ⟨rfl, rfl, rfl, by simp [World.setCell], fun k _ hr => Below.heap_setCell _ _ _ _ (by show k ≠ b; exact fun e => hr (by rw [e]))⟩
theorem rd_drew {w : World} {B : Nat} {A : Option Addr} {xs : List Value} (h : Rd w B A xs) : Rd w.drew B A xs := h
theorem rd_alloc {w : World} {B : Nat} {A : Option Addr} {xs : List Value} {o : Obj} (h : Rd w B A xs) (hB : B ≤ w.heap.size) : Rd (w.alloc o) B A xs := h.below ((Below.refl _ _).alloc hB _)
/-- A call's own memory, left to the caller. -/
theorem below_in {w a b : World} (h : Below w.heap.size w a) (k : Below a.heap.size a b) : Below w.heap.size w b := h.trans (k.mono h.size)

/-- A row of one's own is no block of another type. -/
theorem own_ne {w : World} {base g n c : Nat} {e T : TypeId} {s : Nat} {xs : List Value} {b : Nat} {cs : Array Value} (h : w.ownsRow base e s (.slice (some ⟨g, 0, none⟩) n c) n xs) (k : Bk w b cs T) (hT : e ≠ T) : (Value.slice (some ⟨g, 0, none⟩) n c).ownBlock ≠ some b := by
  intro hb
  have hb : g = b := by injection hb
  subst hb
  rcases h.2 with ⟨e1, _⟩ | ⟨g', cap, cur, e1, _, e3, _⟩
  · cases e1
  · injection e1 with e1; injection e1 with e1; injection e1 with e1
    subst e1
    rw [show w.heap[g]? = some (.cells cs T (0, 0)) from k] at e3
    injection e3 with e3
    injection e3 with _ e3
    exact hT e3.symm
theorem own_slice {w : World} {base n : Nat} {e : TypeId} {s : Nat} {v : Value} {xs : List Value} (h : w.ownsRow base e s v (n + 1) xs) : ∃ g c, v = .slice (some ⟨g, 0, none⟩) (n + 1) c := by
  rcases h.2 with ⟨_, e⟩ | ⟨g, cap, cur, e, _⟩
  · omega
  · exact ⟨g, cap, e⟩

end Go.Proofs.YtejeikfgmiadhaaGreat.Bk
namespace Go.Proofs.YtejeikfgmiadhaaGreat.Sq
open Go.RowKit Go.ChangeShapes Go.WideShapes Go.WideElems Go.Deep Go.Proofs.YtejeikfgmiadhaaGreat.Mem Go.Proofs.YtejeikfgmiadhaaGreat.Rw Go.Proofs.YtejeikfgmiadhaaGreat.P2 Go.Proofs.YtejeikfgmiadhaaGreat.Bk Go.Proofs.YtejeikfgmiadhaaGreat.Sp
set_option linter.unusedVariables false
set_option linter.unusedSimpArgs false
abbrev D := Dd.D
abbrev C := Cd.C
abbrev G := Int × Int × Int

/-- A show in memory: its three lists can be read. -/
def SR (w : World) (A0 A1 A2 : Option Addr) (ds : List D) (cs : List C) (gs : List G) : Prop := Rd w w.heap.size A0 (Dd.dls ds) ∧ Rd w w.heap.size A1 (Cd.dls cs) ∧ Rd w w.heap.size A2 (Gs.gls gs)
theorem SR.below {w w' : World} {A0 A1 A2 : Option Addr} {ds : List D} {cs : List C} {gs : List G} (h : SR w A0 A1 A2 ds cs gs) (hb : Below w.heap.size w w') : SR w' A0 A1 A2 ds cs gs :=
  ⟨(h.1.below hb).more hb.size, (h.2.1.below hb).more hb.size, (h.2.2.below hb).more hb.size⟩
section
variable {w w' : World} {A0 A1 A2 : Option Addr} {ds : List D} {cs : List C} {gs : List G}
theorem SR.r0 (h : SR w A0 A1 A2 ds cs gs) : Rd w w.heap.size A0 (Dd.dls ds) := h.1
theorem SR.r1 (h : SR w A0 A1 A2 ds cs gs) : Rd w w.heap.size A1 (Cd.dls cs) := h.2.1
theorem SR.r2 (h : SR w A0 A1 A2 ds cs gs) : Rd w w.heap.size A2 (Gs.gls gs) := h.2.2
theorem SR.at (h : SR w A0 A1 A2 ds cs gs) {B : Nat} (hB : w.heap.size ≤ B) (hb : Below w.heap.size w w') (hB2 : B ≤ w'.heap.size) : SR w' A0 A1 A2 ds cs gs := h.below hb
end
theorem SR.own {w : World} {base g0 g1 g2 n0 n1 n2 c0 c1 c2 : Nat} {ds : List D} {cs : List C} {gs : List G} {e0 e1 e2 : TypeId} {s0 s1 s2 : Nat}
    (h0 : w.ownsRow base e0 s0 (.slice (some ⟨g0, 0, none⟩) n0 c0) n0 (Dd.dls ds)) (h1 : w.ownsRow base e1 s1 (.slice (some ⟨g1, 0, none⟩) n1 c1) n1 (Cd.dls cs)) (h2 : w.ownsRow base e2 s2 (.slice (some ⟨g2, 0, none⟩) n2 c2) n2 (Gs.gls gs)) :
    SR w (some ⟨g0, 0, none⟩) (some ⟨g1, 0, none⟩) (some ⟨g2, 0, none⟩) ds cs gs := ⟨Rd.own h0, Rd.own h1, Rd.own h2⟩
/-- How many there are of each. -/
def Fit (n0 n1 n2 : Nat) (ds : List D) (cs : List C) (gs : List G) : Prop := (ds.length = n0 ∧ n0 ≤ 1048576) ∧ (cs.length = n1 ∧ n1 ≤ 1048576) ∧ (gs.length = n2 ∧ n2 ≤ 1048576)

theorem ret_int {a b : Int} (h : a = b) : Ending.returned (.int .i64 a) = .returned (.int .i64 b) := by rw [h]
/-- What is left behind a show. -/
def szA (n0 : Nat) (ds : List D) (n1 : Nat) (cs : List C) (n2 : Nat) : Int :=
  if Dl.szV n0 ds < 0 then -1 else if Cl.szW (Dl.szV n0 ds) n1 cs < 0 then -1 else if Cl.szW (Dl.szV n0 ds) n1 cs - (n2 : Int) < 0 then -1 else Cl.szW (Dl.szV n0 ds) n1 cs - (n2 : Int)
theorem szV_le (n : Nat) (zs : List D) : Dl.szV n zs ≤ 1048576 - n - Dl.bulk zs ∨ Dl.szV n zs = -1 := by
  unfold Dl.szV; split
  · exact Or.inr rfl
  · exact Or.inl (Int.le_refl _)
theorem szW_le (L : Int) (n : Nat) (zs : List C) : Cl.szW L n zs = L - n - Cl.bulk zs ∨ Cl.szW L n zs = -1 := by
  unfold Cl.szW; split
  · exact Or.inr rfl
  · exact Or.inl rfl
/-- What is known where enough is left. -/
theorem sz_fit {n0 : Nat} {ds : List D} {n1 : Nat} {cs : List C} {n2 : Nat} (h : ¬ szA n0 ds n1 cs n2 < 0) : n0 + n1 + n2 ≤ 1048576 ∧ Dl.bulk ds ≤ 1048576 ∧ Cl.bulk cs ≤ 1048576 := by
  unfold szA at h
  split at h
  · exact absurd (by decide) h
  split at h
  · exact absurd (by decide) h
  split at h
  · exact absurd (by decide) h
  have a := szV_le n0 ds
  have b := szW_le (Dl.szV n0 ds) n1 cs
  omega

set_option maxRecDepth 100000 in
set_option maxHeartbeats 2000000 in
theorem szShow (A0 : Option Addr) (n0 c0 : Nat) (A1 : Option Addr) (n1 c1 : Nat) (A2 : Option Addr) (n2 c2 : Nat) (T : Int) (ds : List D) (cs : List C) (gs : List G) (w : World)
    (hn0 : ds.length = n0) (hm0 : n0 ≤ maxLen) (hn1 : cs.length = n1) (hm1 : n1 ≤ maxLen) (hm2 : n2 ≤ maxLen) (hr : SR w A0 A1 A2 ds cs gs) (h0 : ∀ z ∈ ds, Dd.Dok z) (h1 : ∀ z ∈ cs, Cd.Dok z) :
    Calls Tryz.prog 8 #[sv A0 n0 c0 A1 n1 c1 A2 n2 c2 T, .int .i64 1048576] w fun e w' => e = .returned (.int .i64 (szA n0 ds n1 cs n2)) ∧ Below w.heap.size w w' := by
  have K := Bk.new w (sc A0 n0 c0 A1 n1 c1 A2 n2 c2 T) 26
  have B0 := (Below.refl w.heap.size w).alloc (Nat.le_refl _) (.cells (sc A0 n0 c0 A1 n1 c1 A2 n2 c2 T) 26)
  have S0 := hr.below B0
  have C0 := Lib.hid (Dl.szDeviceS A0 n0 c0 ds _ hn0 hm0 S0.1 h0)
  have e1 := szV_le n0 ds
  obtain ⟨V, hV⟩ : ∃ V, szA n0 ds n1 cs n2 = V := ⟨_, rfl⟩
  rw [hV]
  unfold szA at hV
  obtain ⟨L0, hL0⟩ : ∃ L, Dl.szV n0 ds = L := ⟨_, rfl⟩
  rw [hL0] at C0 e1 hV
  obtain ⟨L1, hL1⟩ : ∃ L, Cl.szW L0 n1 cs = L := ⟨_, rfl⟩
  have e2 := szW_le L0 n1 cs
  rw [hL1] at hV e2
  have HA := Lib.hid hV.symm
  clear hV
  have HK := Lib.hid K
  have HB := Lib.hid B0
  have HS := Lib.hid S0
  have E1 := Lib.hid e1
  have E2 := Lib.hid e2
  clear K B0 S0 hr e1 e2
  go_enter Tryz.func8, Tryz.ntmps8
  go_wp2_with fail
  refine C0.out.mono ?_
  rintro e w1 ⟨rfl, hb⟩
  have K1 := HK.out.below hb
  have S1 := HS.out.below hb
  have BB := Lib.hid (HB.out.trans (hb.mono HB.out.size))
  by_cases g0 : L0 < 0
  · clear hb C0 HK HB HS K1 S1
    go_wp2_with fail
    go_ret
    exact ⟨ret_int (by rw [HA.out, if_pos g0]), BB.out⟩
  have y1 := K1.cell (i := 1) rfl
  have C1 := Lib.hid (Cl.szCueW A1 n1 c1 cs L0 w1 (by omega) (by have := E1.out; omega) hn1 hm1 S1.2.1 h1)
  rw [hL1] at C1
  have K1' := Lib.hid K1
  clear hb C0 HK HB HS K1 S1
  go_wp2_with fail
  refine C1.out.mono ?_
  rintro e w2 ⟨rfl, hb⟩
  have K2 := K1'.out.below hb
  have B2 := Lib.hid (BB.out.trans (hb.mono BB.out.size))
  have y2 := K2.cell (i := 2) rfl
  clear hb C1 y1 K2 K1' BB
  by_cases g1 : L1 < 0
  · go_wp2_with fail
    go_ret
    exact ⟨ret_int (by rw [HA.out, if_neg (show ¬ L0 < 0 by omega), if_pos g1]), B2.out⟩
  have hle : L1 ≤ 1048576 := by have := E1.out; have := E2.out; omega
  by_cases g2 : L1 - (n2 : Int) < 0
  · have C2 := Lib.hid (SzG.no A2 n2 c2 L1 (by omega) hle hm2 g2 w2)
    go_wp2_with fail
    refine C2.out.mono ?_
    rintro e w3 ⟨rfl, rfl⟩
    go_wp2_with fail
    go_ret
    exact ⟨ret_int (by rw [HA.out, if_neg (show ¬ L0 < 0 by omega), if_neg (show ¬ L1 < 0 by omega), if_pos g2]), B2.out⟩
  · obtain ⟨R, hR⟩ : ∃ R, L1 - (n2 : Int) = R := ⟨_, rfl⟩
    have C2 := Lib.hid (SzG.yes A2 n2 c2 L1 R hle (by omega) hR w2)
    rw [hR] at HA
    have g3 : ¬ R < 0 := by omega
    clear hR
    go_wp2_with fail
    refine C2.out.mono ?_
    rintro e w3 ⟨rfl, rfl⟩
    go_wp2_with fail
    go_ret
    exact ⟨ret_int (by rw [HA.out, if_neg (show ¬ L0 < 0 by omega), if_neg (show ¬ L1 < 0 by omega), if_neg (show ¬ R < 0 by omega)]), B2.out⟩

set_option maxRecDepth 100000 in
set_option maxHeartbeats 2000000 in
theorem eqShow (A0 : Option Addr) (n0 c0 : Nat) (A1 : Option Addr) (n1 c1 : Nat) (A2 : Option Addr) (n2 c2 : Nat) (T : Int) (B0 : Option Addr) (d0 : Nat) (B1 : Option Addr) (d1 : Nat) (B2 : Option Addr) (d2 : Nat)
    (ds : List D) (cs : List C) (gs : List G) (w : World) (hf : Fit n0 n1 n2 ds cs gs) (hr : SR w A0 A1 A2 ds cs gs) (hs : SR w B0 B1 B2 ds cs gs) :
    Calls Tryz.prog 13 #[sv A0 n0 c0 A1 n1 c1 A2 n2 c2 T, sv B0 n0 d0 B1 n1 d1 B2 n2 d2 T] w fun e w' => e = .returned (.bool true) ∧ Below w.heap.size w w' := by
  obtain ⟨⟨hn0, hb0⟩, ⟨hn1, hb1⟩, hn2, hb2⟩ := hf
  have BA := (Below.refl w.heap.size w).alloc (Nat.le_refl _) (.cells (sc A0 n0 c0 A1 n1 c1 A2 n2 c2 T) 34)
  have BV := BA.alloc BA.size (.cells (sc B0 n0 d0 B1 n1 d1 B2 n2 d2 T) 34)
  have KA := Lib.hid ((Bk.new w (sc A0 n0 c0 A1 n1 c1 A2 n2 c2 T) 34).alloc (o := .cells (sc B0 n0 d0 B1 n1 d1 B2 n2 d2 T) 34))
  have KB := Lib.hid (Bk.new (w.alloc (.cells (sc A0 n0 c0 A1 n1 c1 A2 n2 c2 T) 34)) (sc B0 n0 d0 B1 n1 d1 B2 n2 d2 T) 34)
  have RA := Lib.hid (hr.below BV)
  have RB := Lib.hid (hs.below BV)
  have BB := Lib.hid BV
  have hz : (w.alloc (.cells (sc A0 n0 c0 A1 n1 c1 A2 n2 c2 T) 34)).heap.size = w.heap.size + 1 := by simp [go_sem]
  clear BA BV hr hs
  go_enter Tryz.func13, Tryz.ntmps13
  go_wp2_with fail
  refine (Dl.eqDeviceS A0 B0 n0 c0 d0 ds _ _ hn0 hb0 (Nat.le_refl _) RA.out.1 RB.out.1).mono ?_
  rintro e w1 ⟨rfl, hb⟩
  have KA1 := Lib.hid (KA.out.below hb)
  have KB1 := Lib.hid (KB.out.below hb)
  have RA1 := Lib.hid (RA.out.below hb)
  have RB1 := Lib.hid (RB.out.below hb)
  have BB1 := Lib.hid (BB.out.trans (hb.mono BB.out.size))
  have y1 := KA1.out.cell (i := 1) rfl
  have z1 := KB1.out.cell (i := 1) rfl
  rw [hz] at z1
  clear hb KA KB RA RB BB
  go_wp2_with fail
  refine (Cl.eqCueS A1 B1 n1 c1 d1 cs _ _ hn1 hb1 (Nat.le_refl _) RA1.out.2.1 RB1.out.2.1).mono ?_
  rintro e w2 ⟨rfl, hb⟩
  have KA2 := Lib.hid (KA1.out.below hb)
  have KB2 := Lib.hid (KB1.out.below hb)
  have RA2 := Lib.hid (RA1.out.below hb)
  have RB2 := Lib.hid (RB1.out.below hb)
  have BB2 := Lib.hid (BB1.out.trans (hb.mono BB1.out.size))
  have y2 := KA2.out.cell (i := 2) rfl
  have z2 := KB2.out.cell (i := 2) rfl
  rw [hz] at z2
  clear hb KA1 KB1 RA1 RB1 BB1 y1 z1
  go_wp2_with fail
  refine (Gs.eqGustS A2 B2 n2 c2 d2 gs _ _ hn2 hb2 (Nat.le_refl _) RA2.out.2.2 RB2.out.2.2).mono ?_
  rintro e w3 ⟨rfl, hb⟩
  have y3 := (KA2.out.below hb).cell (i := 3) rfl
  have z3 := (KB2.out.below hb).cell (i := 3) rfl
  rw [hz] at z3
  have BB3 := Lib.hid (BB2.out.trans (hb.mono BB2.out.size))
  clear hb KA2 KB2 RA2 RB2 BB2 y2 z2
  go_wp2_with fail
  go_ret
  exact ⟨rfl, BB3.out⟩
end Go.Proofs.YtejeikfgmiadhaaGreat.Sq
namespace Go.Proofs.YtejeikfgmiadhaaGreat.St9
open Go.RowKit Go.ChangeShapes Go.WideShapes Go.WideElems Go.Deep Go.Proofs.YtejeikfgmiadhaaGreat.Mem Go.Proofs.YtejeikfgmiadhaaGreat.Rw Go.Proofs.YtejeikfgmiadhaaGreat.P2 Go.Proofs.YtejeikfgmiadhaaGreat.Bk Go.Proofs.YtejeikfgmiadhaaGreat.Sp Go.Proofs.YtejeikfgmiadhaaGreat.Sq
set_option linter.unusedVariables false
set_option linter.unusedSimpArgs false

/-- What the copy leaves: three rows of its own. -/
def Copied (w : World) (n0 n1 n2 : Nat) (T : Int) (ds : List D) (cs : List C) (gs : List G) (e : Ending) (w' : World) : Prop :=
  ∃ g0 g1 g2, e = .returned (sv (some ⟨g0, 0, none⟩) n0 n0 (some ⟨g1, 0, none⟩) n1 n1 (some ⟨g2, 0, none⟩) n2 n2 T) ∧
    w'.ownsRow w.heap.size 117 8 (.slice (some ⟨g0, 0, none⟩) n0 n0) n0 (Dd.dls ds) ∧ w'.ownsRow w.heap.size 97 4 (.slice (some ⟨g1, 0, none⟩) n1 n1) n1 (Cd.dls cs) ∧
    w'.ownsRow w.heap.size 100 3 (.slice (some ⟨g2, 0, none⟩) n2 n2) n2 (Gs.gls gs) ∧ g0 < g1 ∧ g1 < g2 ∧ Below w.heap.size w w'
abbrev zc : Array Value := #[.slice none 0 0, .slice none 0 0, .slice none 0 0, .int .i64 0]
theorem own_at {w : World} {base : Nat} {e : TypeId} {size g n c : Nat} {xs : List Value} (h : w.ownsRow base e size (.slice (some ⟨g, 0, none⟩) n c) n xs) : base ≤ g := (h.lt g rfl).1
theorem own_lt {w : World} {base : Nat} {e : TypeId} {size g n c : Nat} {xs : List Value} (h : w.ownsRow base e size (.slice (some ⟨g, 0, none⟩) n c) n xs) : g < w.heap.size := (h.lt g rfl).2

set_option maxRecDepth 100000 in
set_option maxHeartbeats 2000000 in
theorem toShow (A0 : Option Addr) (n0 c0 : Nat) (A1 : Option Addr) (n1 c1 : Nat) (A2 : Option Addr) (n2 c2 : Nat) (T : Int) (ds : List D) (cs : List C) (gs : List G) (w : World)
    (hf : Fit n0 n1 n2 ds cs gs) (hr : SR w A0 A1 A2 ds cs gs) :
    Calls Tryz.prog 10 #[sv A0 n0 c0 A1 n1 c1 A2 n2 c2 T] w (Copied w n0 n1 n2 T ds cs gs) := by
  obtain ⟨⟨hn0, hb0⟩, ⟨hn1, hb1⟩, hn2, hb2⟩ := hf
  have BA := (Below.refl w.heap.size w).alloc (Nat.le_refl _) (.cells (sc A0 n0 c0 A1 n1 c1 A2 n2 c2 T) 26)
  have BR := BA.alloc BA.size (.cells zc 34)
  have BO := BR.alloc BR.size (.cells zc 34)
  have KA := Lib.hid (((Bk.new w (sc A0 n0 c0 A1 n1 c1 A2 n2 c2 T) 26).alloc (o := .cells zc 34)).alloc (o := .cells zc 34))
  have KR := Lib.hid ((Bk.new (w.alloc (.cells (sc A0 n0 c0 A1 n1 c1 A2 n2 c2 T) 26)) zc 34).alloc (o := .cells zc 34))
  have KO := Lib.hid (Bk.new ((w.alloc (.cells (sc A0 n0 c0 A1 n1 c1 A2 n2 c2 T) 26)).alloc (.cells zc 34)) zc 34)
  have hz1 : (w.alloc (.cells (sc A0 n0 c0 A1 n1 c1 A2 n2 c2 T) 26)).heap.size = w.heap.size + 1 := by simp [go_sem]
  have hz2 : ((w.alloc (.cells (sc A0 n0 c0 A1 n1 c1 A2 n2 c2 T) 26)).alloc (.cells zc 34)).heap.size = w.heap.size + 1 + 1 := by simp [go_sem]
  rw [hz1] at KR
  rw [hz2] at KO
  have HS := Lib.hid hr
  have BB := Lib.hid BO
  clear BA BR BO hr hz1 hz2
  go_enter Tryz.func10, Tryz.ntmps10
  go_wp2_with fail
  refine (Dl.toDeviceS A0 n0 c0 ds _ hn0 hb0 (HS.out.below BB.out).1).mono ?_
  rintro e w1 ⟨g0, rfl, _, o0, hb⟩
  have o0' := Lib.hid (owns_base o0 (Nat.le_trans BB.out.size (own_at o0)))
  have KA1 := Lib.hid (KA.out.below hb)
  have KR1 := Lib.hid (KR.out.below hb)
  have KO1 := Lib.hid (KO.out.below hb)
  have B1 := Lib.hid (BB.out.trans (hb.mono BB.out.size))
  have y1 := KA1.out.cell (i := 1) rfl
  have z0 := KO1.out.cell (i := 0) rfl
  have f0 := KO1.out.frozen 0
  clear hb KA KR KO BB o0
  have KA1' := Lib.hid (KA1.out.far (b' := w.heap.size + 1 + 1) (i := 0) (v := .slice (some ⟨g0, 0, none⟩) n0 n0) (by omega))
  have KR1' := Lib.hid (KR1.out.far (b' := w.heap.size + 1 + 1) (i := 0) (v := .slice (some ⟨g0, 0, none⟩) n0 n0) (by omega))
  have KO1' := Lib.hid (KO1.out.set (i := 0) (v := .slice (some ⟨g0, 0, none⟩) n0 n0))
  have B1' := Lib.hid (B1.out.grown (Bk.setG w1 (w.heap.size + 1 + 1) 0 (.slice (some ⟨g0, 0, none⟩) n0 n0)) B1.out.size (fun k hk => by cases hk; omega))
  have o01 := Lib.hid (owns_grown o0'.out (Bk.setG w1 (w.heap.size + 1 + 1) 0 (.slice (some ⟨g0, 0, none⟩) n0 n0)) (fun k hk => by have := own_ne o0'.out KO1.out (by decide); exact fun e => this (hk.trans e.symm)))
  clear B1 KA1 KR1 KO1 o0'
  go_wp2_with fail
  refine (Cl.toCueS A1 n1 c1 cs _ hn1 hb1 (HS.out.below B1'.out).2.1).mono ?_
  rintro e w2 ⟨g1, rfl, _, o1, hb⟩
  have l01 : g0 < g1 := Nat.lt_of_lt_of_le (own_lt o01.out) (own_at o1)
  have o1' := Lib.hid (owns_base o1 (Nat.le_trans B1'.out.size (own_at o1)))
  have o02 := Lib.hid (owns_below o01.out hb)
  have KA2 := Lib.hid (KA1'.out.below hb)
  have KR2 := Lib.hid (KR1'.out.below hb)
  have KO2 := Lib.hid (KO1'.out.below hb)
  have B2 := Lib.hid (B1'.out.trans (hb.mono B1'.out.size))
  have y2 := KA2.out.cell (i := 2) rfl
  have z1 := KO2.out.cell (i := 1) rfl
  have f1 := KO2.out.frozen 1
  clear hb KA1' KR1' KO1' B1' o1 o01 y1 z0 f0
  have KA2' := Lib.hid (KA2.out.far (b' := w.heap.size + 1 + 1) (i := 1) (v := .slice (some ⟨g1, 0, none⟩) n1 n1) (by omega))
  have KR2' := Lib.hid (KR2.out.far (b' := w.heap.size + 1 + 1) (i := 1) (v := .slice (some ⟨g1, 0, none⟩) n1 n1) (by omega))
  have KO2' := Lib.hid (KO2.out.set (i := 1) (v := .slice (some ⟨g1, 0, none⟩) n1 n1))
  have G2 := Bk.setG w2 (w.heap.size + 1 + 1) 1 (.slice (some ⟨g1, 0, none⟩) n1 n1)
  have B2' := Lib.hid (B2.out.grown G2 B2.out.size (fun k hk => by cases hk; omega))
  have o12 := Lib.hid (owns_grown o1'.out G2 (fun k hk => by have := own_ne o1'.out KO2.out (by decide); exact fun e => this (hk.trans e.symm)))
  have o03 := Lib.hid (owns_grown o02.out G2 (fun k hk => by have := own_ne o02.out KO2.out (by decide); exact fun e => this (hk.trans e.symm)))
  clear B2 KA2 KR2 KO2 o1' o02 G2
  go_wp2_with fail
  refine (Gs.toGustS A2 n2 c2 gs _ hn2 hb2 (HS.out.below B2'.out).2.2).mono ?_
  rintro e w3 ⟨g2, rfl, _, o2, hb⟩
  have l12 : g1 < g2 := Nat.lt_of_lt_of_le (own_lt o12.out) (own_at o2)
  have o2' := Lib.hid (owns_base o2 (Nat.le_trans B2'.out.size (own_at o2)))
  have o13 := Lib.hid (owns_below o12.out hb)
  have o04 := Lib.hid (owns_below o03.out hb)
  have KA3 := Lib.hid (KA2'.out.below hb)
  have KR3 := Lib.hid (KR2'.out.below hb)
  have KO3 := Lib.hid (KO2'.out.below hb)
  have B3 := Lib.hid (B2'.out.trans (hb.mono B2'.out.size))
  have z2 := KO3.out.cell (i := 2) rfl
  have f2 := KO3.out.frozen 2
  clear hb KA2' KR2' KO2' B2' o2 o12 o03 y2 z1 f1
  have KA3' := Lib.hid (KA3.out.far (b' := w.heap.size + 1 + 1) (i := 2) (v := .slice (some ⟨g2, 0, none⟩) n2 n2) (by omega))
  have KR3' := Lib.hid (KR3.out.far (b' := w.heap.size + 1 + 1) (i := 2) (v := .slice (some ⟨g2, 0, none⟩) n2 n2) (by omega))
  have KO3' := Lib.hid (KO3.out.set (i := 2) (v := .slice (some ⟨g2, 0, none⟩) n2 n2))
  have G3 := Bk.setG w3 (w.heap.size + 1 + 1) 2 (.slice (some ⟨g2, 0, none⟩) n2 n2)
  have B3' := Lib.hid (B3.out.grown G3 B3.out.size (fun k hk => by cases hk; omega))
  have o22 := Lib.hid (owns_grown o2'.out G3 (fun k hk => by have := own_ne o2'.out KO3.out (by decide); exact fun e => this (hk.trans e.symm)))
  have o14 := Lib.hid (owns_grown o13.out G3 (fun k hk => by have := own_ne o13.out KO3.out (by decide); exact fun e => this (hk.trans e.symm)))
  have o05 := Lib.hid (owns_grown o04.out G3 (fun k hk => by have := own_ne o04.out KO3.out (by decide); exact fun e => this (hk.trans e.symm)))
  clear B3 KA3 KR3 KO3 o2' o13 o04 G3
  go_upto_region 5 with fail
  generalize w3.setCell ⟨w.heap.size + 1 + 1, 2, none⟩ (.slice (some ⟨g2, 0, none⟩) n2 n2) = V at *
  have y3 := KA3'.out.cell (i := 3) rfl
  have z0 := KO3'.out.cell (i := 0) rfl
  have z1 := KO3'.out.cell (i := 1) rfl
  have z2 := KO3'.out.cell (i := 2) rfl
  have z3 := KO3'.out.cell (i := 3) rfl
  have r0 := KR3'.out.cell (i := 0) rfl
  have r1 := KR3'.out.cell (i := 1) rfl
  have r2 := KR3'.out.cell (i := 2) rfl
  have r3 := KR3'.out.cell (i := 3) rfl
  have f3 := KO3'.out.frozen 3
  have q0 := KR3'.out.frozen 0
  have q1 := KR3'.out.frozen 1
  have q2 := KR3'.out.frozen 2
  have q3 := KR3'.out.frozen 3
  go_wp2_with fail
  have x3 := (KR3'.out.far (b' := w.heap.size + 1 + 1) (i := 3) (v := .int .i64 T) (by omega))
  have G4 := Bk.setG V (w.heap.size + 1 + 1) 3 (.int .i64 T)
  have p2 := owns_grown o22.out G4 (fun k hk => by have := own_ne o22.out KO3'.out (by decide); exact fun e => this (hk.trans e.symm))
  have p1 := owns_grown o14.out G4 (fun k hk => by have := own_ne o14.out KO3'.out (by decide); exact fun e => this (hk.trans e.symm))
  have p0 := owns_grown o05.out G4 (fun k hk => by have := own_ne o05.out KO3'.out (by decide); exact fun e => this (hk.trans e.symm))
  have B4 := B3'.out.grown G4 B3'.out.size (fun k hk => by cases hk; omega)
  generalize V.setCell ⟨w.heap.size + 1 + 1, 3, none⟩ (.int .i64 T) = X at *
  have H1 := Bk.setG X (w.heap.size + 1) 0 (.slice (some ⟨g0, 0, none⟩) n0 n0)
  have H2 := grown_trans H1 (Bk.setG _ (w.heap.size + 1) 1 (.slice (some ⟨g1, 0, none⟩) n1 n1))
  have H3 := grown_trans H2 (Bk.setG _ (w.heap.size + 1) 2 (.slice (some ⟨g2, 0, none⟩) n2 n2))
  have H4 := grown_trans H3 (Bk.setG _ (w.heap.size + 1) 3 (.int .i64 T))
  have KX := (((x3.set (i := 0) (v := .slice (some ⟨g0, 0, none⟩) n0 n0)).set (i := 1) (v := .slice (some ⟨g1, 0, none⟩) n1 n1)).set (i := 2) (v := .slice (some ⟨g2, 0, none⟩) n2 n2)).set (i := 3) (v := .int .i64 T)
  have s0 := KX.cell (i := 0) rfl
  have s1 := KX.cell (i := 1) rfl
  have s2 := KX.cell (i := 2) rfl
  have s3 := KX.cell (i := 3) rfl
  refine bodyPost_ret (v := sv (some ⟨g0, 0, none⟩) n0 n0 (some ⟨g1, 0, none⟩) n1 n1 (some ⟨g2, 0, none⟩) n2 n2 T) (by simp [results, Tryz.results10, go_sem, s0, s1, s2, s3]; try rfl) rfl ?_
  exact ⟨g0, g1, g2, rfl, owns_grown p0 H4 (fun k hk => by have := own_ne p0 x3 (by decide); exact fun e => this (hk.trans e.symm)), owns_grown p1 H4 (fun k hk => by have := own_ne p1 x3 (by decide); exact fun e => this (hk.trans e.symm)),
    owns_grown p2 H4 (fun k hk => by have := own_ne p2 x3 (by decide); exact fun e => this (hk.trans e.symm)), l01, l12, B4.grown H4 B4.size (fun k hk => by cases hk; omega)⟩
end Go.Proofs.YtejeikfgmiadhaaGreat.St9
namespace Go.Proofs.YtejeikfgmiadhaaGreat.Fmt
open Go.RowKit Go.Proofs.YtejeikfgmiadhaaGreat.Mem

/-- The text of a list of bytes. -/
def txt (l : List UInt8) : ByteArray := ⟨l.toArray⟩
theorem txt_append (a b : List UInt8) : txt a ++ txt b = txt (a ++ b) := by
  unfold txt
  apply ByteArray.ext
  simp
def itoaT (n : Int) : ByteArray := txt (Lib.itoa n)

def Wrote (s : ByteArray) (w : World) (e : Ending) (w' : World) : Prop := e = .returned (.string s) ∧ Below w.heap.size w w'

theorem digits_step (u : Nat) (h : ¬ u < 10) : Lib.decDigits u = Lib.decDigits (u / 10) ++ [UInt8.ofNat (48 + u % 10)] := by rw [Lib.decDigits, dif_neg h]
theorem digits_one (u : Nat) (h : u < 10) : Lib.decDigits u = [UInt8.ofNat (48 + u)] := by rw [Lib.decDigits, dif_pos h]
theorem digits_len : ∀ (k u : Nat), u < 10 ^ (k + 1) → (Lib.decDigits u).length ≤ k + 1
  | 0, u, h => by rw [digits_one u (by simpa using h)]; exact Nat.le_refl _
  | k + 1, u, h => by
    by_cases h1 : u < 10
    · rw [digits_one u h1]; simp
    · rw [digits_step u h1, List.length_append]
      have := digits_len k (u / 10) (by
        rw [Nat.div_lt_iff_lt_mul (by decide)]
        rw [Nat.pow_succ] at h
        exact h)
      simp only [List.length_cons, List.length_nil]
      omega

/-- One digit, as the model makes it. -/
theorem digit_conv (w : World) (d : Nat) (hd : d < 10) :
    (convert 139 9 (.slice (some ⟨w.heap.size, 0, none⟩) 1 1)).run Tryz.prog (w.alloc (.cells #[.int .u8 (48 + (d : Int))] 5)) = .ok (.string (txt [UInt8.ofNat (48 + d)])) (w.alloc (.cells #[.int .u8 (48 + (d : Int))] 5)) := by
  have h := run_convert_bytes_arg (P := Tryz.prog) (w.alloc (.cells #[.int .u8 (48 + (d : Int))] 5)) 139 5 Tryz.underlying139 Tryz.underlying5 w.heap.size 0 1 1 [48 + (d : Int)] rfl (by
    intro i hi
    obtain rfl : i = 0 := by omega
    rw [cell_of_row _ w.heap.size 0 _ _ _ (heap_alloc_new w _)]
    rfl) 9 Tryz.underlying9
  rw [h]
  congr 2

end Go.Proofs.YtejeikfgmiadhaaGreat.Fmt
namespace Go.Proofs.YtejeikfgmiadhaaGreat.Strs
open Go.RowKit Go.Proofs.YtejeikfgmiadhaaGreat.Mem

theorem infoStr : (Tryz.prog.info? 9).map (fun i => (i.zero, i.size, i.bytes)) = some (some (.string ByteArray.empty), 1, 16) := by kernel_rfl
def strs (ss : List ByteArray) : List Value := ss.map Value.string
theorem strs_len (ss : List ByteArray) : (strs ss).length = ss.length := List.length_map ..
theorem strs_get {ss : List ByteArray} {k : Nat} {s : ByteArray} (h : ss[k]? = some s) : (strs ss)[k]? = some (.string s) := by
  unfold strs; rw [List.getElem?_map, h]; rfl

theorem made_strs (n : Nat) : (madeCells (Value.string ByteArray.empty).cells (n * 1)).toList = List.replicate n (.string ByteArray.empty) := by
  rw [Nat.mul_one]; exact toList_madeCells_one _ _

/-- What the copy leaves: a row of its own with these strings; what was there is as it was. -/
def Copied (w : World) (n : Nat) (ss : List ByteArray) (e : Ending) (w' : World) : Prop :=
  ∃ g, e = .returned (.slice (some ⟨g, 0, none⟩) n n) ∧ w.heap.size ≤ g ∧ w'.ownsRow w.heap.size 9 1 (.slice (some ⟨g, 0, none⟩) n n) n (strs ss) ∧ Below w.heap.size w w'

/-- Found equal: only draws were made. -/
def Same (b : Bool) (w : World) (e : Ending) (w' : World) : Prop := e = .returned (.bool b) ∧ ∃ m, w' = w.drewN m

/-- All lengths together. -/
def byteSum : List ByteArray → Nat
  | [] => 0
  | s :: ss => s.size + byteSum ss
theorem byteSum_append (a b : List ByteArray) : byteSum (a ++ b) = byteSum a + byteSum b := by
  induction a with
  | nil => simp [byteSum]
  | cons z a ih => simp only [List.cons_append, byteSum, ih]; omega
theorem byteSum_take {ss : List ByteArray} {k : Nat} {s : ByteArray} (h : ss[k]? = some s) : byteSum (ss.take (k + 1)) = byteSum (ss.take k) + s.size := by
  obtain ⟨hk, rfl⟩ := List.getElem?_eq_some_iff.1 h
  rw [List.take_succ_eq_append_getElem hk, byteSum_append]; simp [byteSum]
theorem byteSum_take_le (ss : List ByteArray) (k : Nat) : byteSum (ss.take k) ≤ byteSum ss := by
  have := byteSum_append (ss.take k) (ss.drop k)
  rw [List.take_append_drop] at this
  omega
def left (ss : List ByteArray) : Int := if ss.length + byteSum ss ≤ 1048576 then 1048576 - (ss.length : Int) - byteSum ss else -1
theorem left_no {ss : List ByteArray} (h : 1048576 < ss.length + byteSum ss) : left ss = -1 := if_neg (by omega)
theorem left_yes {ss : List ByteArray} (h : ss.length + byteSum ss ≤ 1048576) : left ss = 1048576 - (ss.length : Int) - byteSum ss := if_pos h
theorem ret_int {a b : Int} (h : a = b) : Ending.returned (.int .i64 a) = .returned (.int .i64 b) := by rw [h]

end Go.Proofs.YtejeikfgmiadhaaGreat.Strs
