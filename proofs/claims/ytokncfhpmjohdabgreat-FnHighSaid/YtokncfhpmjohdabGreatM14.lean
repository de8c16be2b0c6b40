/- What the model's own cursor over a draw's bytes does: each draw is some number within its bounds, and nothing but the cursor is written. -/
import Derived.Test.YtokncfhpmjohdabGreatM1
import Derived.Test.YtokncfhpmjohdabGreatM4
import Derived.IntWalk
import Derived.Test.YtokncfhpmjohdabGreatM6
import Derived.Test.YtokncfhpmjohdabGreatM11
import Derived.Test.YtokncfhpmjohdabGreatBxd
import Derived.Handy
set_option linter.unusedVariables false
set_option linter.unusedSimpArgs false
namespace Go.Proofs.YtokncfhpmjohdabGreat.Draw
open Go.RowKit Go.Proofs.YtokncfhpmjohdabGreat.Mem

theorem grown_trans {a b c : World} {row : Option Nat} (h : a.grownBy b row) (k : b.grownBy c row) : a.grownBy c row :=
  ⟨k.os.trans h.os, k.tape.trans h.tape, k.output.trans h.output, Nat.le_trans h.size k.size, fun i hi hr => (k.block i (Nat.lt_of_lt_of_le hi h.size) hr).trans (h.block i hi hr)⟩

/-- The cursor at block g: over the bytes at A, n of them. -/
def Cur (w : World) (g : Nat) (A : Option Addr) (n c : Nat) : Prop :=
  ∃ (i : Nat) (h : Int), i ≤ n ∧ w.heap[g]? = some (.cells #[.slice A n c, .int .i64 i, .int .i64 h] 91 (0, 0))

theorem grownBy_setCell (w : World) (g j : Nat) (v : Value) : w.grownBy (w.setCell ⟨g, j, none⟩ v) (some g) :=
  ⟨rfl, rfl, rfl, by simp, fun k _ hk => Below.heap_setCell _ _ _ _ (fun e => hk (by rw [e]))⟩

theorem grownBy_drewN (w : World) (k : Nat) (row : Option Nat) : w.grownBy (w.drewN k) row := ⟨rfl, rfl, rfl, Nat.le_refl _, fun _ _ _ => rfl⟩

def u8s (bs : List UInt8) : List Value := bs.map fun b => Value.int .u8 b.toNat

theorem bits_and_mask (a : Int) (m : Nat) (hm : m < 9223372036854775808) : 0 ≤ bits .and .i64 a m ∧ bits .and .i64 a m ≤ m := by
  unfold bits
  have hb : IntKind.i64.bits = 64 := rfl
  simp only [IntKind.wrap, BitVec.toNat_and, BitVec.toNat_ofInt]
  have h1 : ((a % ((2 ^ IntKind.i64.bits : Nat) : Int)).toNat &&& ((m : Int) % ((2 ^ IntKind.i64.bits : Nat) : Int)).toNat) ≤ m := by
    refine Nat.le_trans Nat.and_le_right ?_
    rw [hb]; omega
  generalize ((a % ((2 ^ IntKind.i64.bits : Nat) : Int)).toNat &&& ((m : Int) % ((2 ^ IntKind.i64.bits : Nat) : Int)).toNat) = Y at *
  rw [hb]
  have hy : (Y : Int) % 2 ^ 64 = Y := by omega
  rw [hy]
  split
  · rename_i h
    have h3 := (Bool.and_eq_true_iff.1 h).2
    have := of_decide_eq_true h3
    omega
  · omega

/-- What a draw leaves: some number with P; the cursor alone is written. -/
def Got (P : Int → Prop) (w : World) (g : Nat) (A : Option Addr) (n c : Nat) (e : Ending) (w' : World) : Prop :=
  ∃ x, P x ∧ e = .returned (.int .i64 x) ∧ Cur w' g A n c ∧ w.grownBy w' (some g)

set_option maxHeartbeats 2000000 in
theorem l1Byte (w : World) (g : Nat) (A : Option Addr) (n c : Nat) (bs : List UInt8) (B : Nat) (hn : bs.length = n) (hnb : n ≤ 9223372036854775807) (hB : B ≤ g) (hr : Rd w B A (u8s bs)) (hc : Cur w g A n c) :
    Calls Tryz.prog 60 #[.pointer (some ⟨g, 0, none⟩)] w (Got (fun x => 0 ≤ x ∧ x ≤ 255) w g A n c) := by
  obtain ⟨i, h, hi, hblk⟩ := hc
  have c0 : w.cell? ⟨g, 0, none⟩ = some (.slice A n c) := by rw [cell_of_row w g 0 _ _ _ hblk]; rfl
  have c1 : w.cell? ⟨g, 1, none⟩ = some (.int .i64 i) := by rw [cell_of_row w g 1 _ _ _ hblk]; rfl
  have c2 : w.cell? ⟨g, 2, none⟩ = some (.int .i64 h) := by rw [cell_of_row w g 2 _ _ _ hblk]; rfl
  have f1 : w.frozen? ⟨g, 1, none⟩ = false := frozen_of_row w g 1 _ _ hblk
  have f2 : w.frozen? ⟨g, 2, none⟩ = false := frozen_of_row w g 2 _ _ hblk
  have HR := Lib.hid hr
  have HN := Lib.hid hn
  clear hr hn
  have HBK := Lib.hid hblk
  clear hblk
  go_enter Tryz.func60, Tryz.ntmps60
  go_wp2
  generalize wrap64 (wrap64 (h * 6364136223846793005) + 1442695040888963407) = h2
  obtain ⟨W1, hW1⟩ : ∃ W1, W1 = w.setCell ⟨g, 2, none⟩ (.int .i64 h2) := ⟨_, rfl⟩
  rw [← hW1]
  have bk1 : W1.heap[g]? = some (.cells #[.slice A n c, .int .i64 i, .int .i64 h2] 91 (0, 0)) := by
    rw [hW1]; exact heap_setCell_same w g 2 _ _ _ HBK.out
  have g1 : w.grownBy W1 (some g) := by rw [hW1]; exact grownBy_setCell w g 2 _
  clear hW1 c0 c1 c2 f1 f2
  have c0 : W1.cell? ⟨g, 0, none⟩ = some (.slice A n c) := by rw [cell_of_row W1 g 0 _ _ _ bk1]; rfl
  have c1 : W1.cell? ⟨g, 1, none⟩ = some (.int .i64 i) := by rw [cell_of_row W1 g 1 _ _ _ bk1]; rfl
  have c2 : W1.cell? ⟨g, 2, none⟩ = some (.int .i64 h2) := by rw [cell_of_row W1 g 2 _ _ _ bk1]; rfl
  have f1 : W1.frozen? ⟨g, 1, none⟩ = false := frozen_of_row W1 g 1 _ _ bk1
  have G1 := Lib.hid g1
  have BK1 := Lib.hid bk1
  clear g1 bk1
  go_quiet (fail)
  obtain ⟨b1, b2⟩ := bits_and_mask (bits .xor .i64 (h2 / 34359738368) (h2 / 35184372088832)) 255 (by decide)
  generalize bits .and .i64 (bits .xor .i64 (h2 / 34359738368) (h2 / 35184372088832)) 255 = x at *
  by_cases hlt : i < n
  · have hk : i < (u8s bs).length := by unfold u8s; rw [List.length_map, HN.out]; exact hlt
    have hk2 : i < bs.length := by rw [HN.out]; exact hlt
    obtain ⟨y, hy⟩ : ∃ y, bs[i]? = some y := ⟨_, List.getElem?_eq_getElem hk2⟩
    obtain ⟨b, o, eA, hbB, hcell⟩ := HR.out.get hk
    have d0 : w.cell? ⟨b, o + i, none⟩ = some (.int .u8 y.toNat) := hcell i _ (by unfold u8s; rw [List.getElem?_map, hy]; rfl)
    have d1 : W1.cell? ⟨b, o + i, none⟩ = some (.int .u8 y.toNat) := G1.out.cell d0 (fun e => by have e2 : b = g := Option.some.inj e; omega)
    have hlt' : (i : Int) < (n : Int) := by omega
    have hi0 : (0 : Int) ≤ (i : Int) := by omega
    have hyb : y.toNat < 256 := y.toNat_lt
    obtain ⟨b3, b4⟩ := bits_and_mask (x + y.toNat) 255 (by decide)
    clear d0 hcell hy hk hk2 hB hbB
    subst eA
    go_wp2
    go_quiet (fail)
    go_wp2
    go_quiet (fail)
    generalize bits .and .i64 (x + (y.toNat : Int)) 255 = z at *
    go_wp2
    go_ret
    exact ⟨z, ⟨b3, b4⟩, rfl, ⟨i + 1, h2, by omega, heap_setCell_same _ g 1 _ _ _ BK1.out⟩, grown_trans G1.out (grown_trans (grownBy_drewN _ _ _) (grownBy_setCell _ g 1 _))⟩
  · have hge : ¬ (i : Int) < (n : Int) := by omega
    have hdec : decide ((i : Int) < (n : Int)) = false := decide_eq_false hge
    go_wp2
    go_quiet (fail)
    go_wp2
    go_ret
    refine ⟨x, ⟨b1, b2⟩, rfl, ⟨i, h2, hi, BK1.out⟩, grown_trans G1.out (grown_trans (grownBy_drewN _ _ _) (grownBy_drewN _ _ _))⟩

/-- What stands at every call of a draw: the bytes can be read, and the cursor is at its place. -/
structure Ready (w : World) (g : Nat) (A : Option Addr) (n c : Nat) (bs : List UInt8) : Prop where
  len : bs.length = n
  max : n ≤ 9223372036854775807
  rd : Rd w g A (u8s bs)
  cur : Cur w g A n c

theorem Rd.grown {w w' : World} {g : Nat} {A : Option Addr} {xs : List Value} (h : Rd w g A xs) (k : w.grownBy w' (some g)) : Rd w' g A xs := by
  rcases h with h | ⟨b, o, e, hb, hx⟩
  · exact Or.inl h
  · exact Or.inr ⟨b, o, e, hb, fun j v hv => k.cell (hx j v hv) (fun e => by have e2 : b = g := Option.some.inj e; omega)⟩

theorem Ready.next {w w' : World} {g n c : Nat} {A : Option Addr} {bs : List UInt8} (h : Ready w g A n c bs) (k : w.grownBy w' (some g)) (hc : Cur w' g A n c) : Ready w' g A n c bs :=
  ⟨h.len, h.max, Rd.grown h.rd k, hc⟩

theorem byte {w : World} {g n c : Nat} {A : Option Addr} {bs : List UInt8} (h : Ready w g A n c bs) : Calls Tryz.prog 60 #[.pointer (some ⟨g, 0, none⟩)] w (Got (fun x => 0 ≤ x ∧ x ≤ 255) w g A n c) :=
  l1Byte w g A n c bs g h.len h.max (Nat.le_refl _) h.rd h.cur

set_option maxHeartbeats 2000000 in
theorem below {w : World} {g n c : Nat} {A : Option Addr} {bs : List UInt8} (h : Ready w g A n c bs) (m : Int) (h1 : 1 ≤ m) (h2 : m ≤ 9223372036854775807) :
    Calls Tryz.prog 26 #[.pointer (some ⟨g, 0, none⟩), .int .i64 m] w (Got (fun x => 0 ≤ x ∧ x < m) w g A n c) := by
  have H := Lib.hid h
  clear h
  by_cases c1 : m ≤ 256
  · go_enter Tryz.func26, Tryz.ntmps26
    go_wp2_with fail
    refine (byte H.out).mono ?_
    rintro e w1 ⟨x, ⟨x1, x2⟩, rfl, k1, k2⟩
    have K := Lib.hid (And.intro k1 k2)
    clear k1 k2
    go_wp2_with fail
    go_ret
    exact ⟨x % m, ⟨Int.emod_nonneg _ (by omega), Int.emod_lt_of_pos _ (by omega)⟩, rfl, K.out.1, K.out.2⟩
  · go_enter Tryz.func26, Tryz.ntmps26
    go_wp2_with fail
    refine (byte H.out).mono ?_
    rintro e w1 ⟨x, ⟨x1, x2⟩, rfl, k1, k2⟩
    have H1 := Lib.hid (H.out.next k2 k1)
    have K1 := Lib.hid k2
    clear k1 k2
    go_wp2_with fail
    refine (byte H1.out).mono ?_
    rintro e w2 ⟨y, ⟨y1, y2⟩, rfl, k1, k2⟩
    have H2 := Lib.hid (H1.out.next k2 k1)
    have K2 := Lib.hid (grown_trans K1.out k2)
    clear k1 k2
    go_wp2_with fail
    refine (byte H2.out).mono ?_
    rintro e w3 ⟨z, ⟨z1, z2⟩, rfl, k1, k2⟩
    have K3 := Lib.hid (And.intro k1 (grown_trans K2.out k2))
    clear k1 k2
    go_wp2_with fail
    go_ret
    exact ⟨(x * 65536 + y * 256 + z) % m, ⟨Int.emod_nonneg _ (by omega), Int.emod_lt_of_pos _ (by omega)⟩, rfl, K3.out.1, K3.out.2⟩

/-- What a yes or no leaves. -/
def GotB (w : World) (g : Nat) (A : Option Addr) (n c : Nat) (e : Ending) (w' : World) : Prop :=
  ∃ x, e = .returned (.bool x) ∧ Cur w' g A n c ∧ w.grownBy w' (some g)

theorem once {w : World} {g n c : Nat} {A : Option Addr} {bs : List UInt8} (h : Ready w g A n c bs) (m : Int) (h1 : 1 ≤ m) (h2 : m ≤ 9223372036854775807) :
    Calls Tryz.prog 93 #[.pointer (some ⟨g, 0, none⟩), .int .i64 m] w (GotB w g A n c) := by
  have H := Lib.hid h
  clear h
  go_enter Tryz.func93, Tryz.ntmps93
  go_wp2_with fail
  refine (below H.out m h1 h2).mono ?_
  rintro e w1 ⟨x, ⟨x1, x2⟩, rfl, k1, k2⟩
  have K := Lib.hid (And.intro k1 k2)
  clear k1 k2
  go_wp2_with fail
  go_ret
  exact ⟨_, rfl, K.out.1, K.out.2⟩

theorem some_ {w : World} {g n c : Nat} {A : Option Addr} {bs : List UInt8} (h : Ready w g A n c bs) (a b : Int) (h1 : a ≤ b) (h2 : -1000000000 ≤ a) (h3 : b ≤ 1000000000) :
    Calls Tryz.prog 131 #[.pointer (some ⟨g, 0, none⟩), .int .i64 a, .int .i64 b] w (Got (fun x => a ≤ x ∧ x ≤ b) w g A n c) := by
  have H := Lib.hid h
  clear h
  go_enter Tryz.func131, Tryz.ntmps131
  go_wp2_with fail
  refine (below H.out (b - a + 1) (by omega) (by omega)).mono ?_
  rintro e w1 ⟨x, ⟨x1, x2⟩, rfl, k1, k2⟩
  have K := Lib.hid (And.intro k1 k2)
  clear k1 k2
  go_wp2_with fail
  go_ret
  exact ⟨_, ⟨by omega, by omega⟩, rfl, K.out.1, K.out.2⟩

theorem Cur.lt {w : World} {g n c : Nat} {A : Option Addr} (h : Cur w g A n c) : g < w.heap.size := by
  obtain ⟨i, x, _, hb⟩ := h
  exact (Array.getElem?_eq_some_iff.1 hb).1

theorem Cur.kept {w w' : World} {g n c : Nat} {A : Option Addr} (h : Cur w g A n c) (hb : w'.heap[g]? = w.heap[g]?) : Cur w' g A n c := by
  obtain ⟨i, x, hi, hx⟩ := h
  exact ⟨i, x, hi, hb.trans hx⟩

theorem Ready.alloc {w : World} {g n c : Nat} {A : Option Addr} {bs : List UInt8} (h : Ready w g A n c bs) (o : Obj) : Ready (w.alloc o) g A n c bs :=
  h.next (World.grownBy_alloc w o _) (h.cur.kept (Below.heap_alloc _ _ _ h.cur.lt))

/-- A number of a list that lies apart from the cursor. -/
theorem pick {w : World} {g n c : Nat} {A : Option Addr} {bs : List UInt8} (h : Ready w g A n c bs) (lb lo lc : Nat) (zs : List Int) (hb : lb ≠ g) (h1 : 1 ≤ zs.length) (h2 : zs.length ≤ 1000) (hl : ∀ j z, zs[j]? = some z → w.cell? ⟨lb, lo + j, none⟩ = some (.int .i64 z)) :
    Calls Tryz.prog 95 #[.pointer (some ⟨g, 0, none⟩), .slice (some ⟨lb, lo, none⟩) zs.length lc] w (Got (· ∈ zs) w g A n c) := by
  have H := Lib.hid h
  have HL := Lib.hid hl
  obtain ⟨m, hm⟩ : ∃ m, zs.length = m := ⟨_, rfl⟩
  rw [hm] at h1 h2 ⊢
  have HM := Lib.hid hm
  clear h hl hm
  go_enter Tryz.func95, Tryz.ntmps95
  go_wp2_with fail
  refine (below H.out m (by omega) (by omega)).mono ?_
  rintro e w1 ⟨x, ⟨x1, x2⟩, rfl, k1, k2⟩
  obtain ⟨k, rfl⟩ : ∃ k : Nat, x = k := ⟨x.toNat, by omega⟩
  have hk : k < zs.length := by rw [HM.out]; omega
  obtain ⟨z, hz⟩ : ∃ z, zs[k]? = some z := ⟨_, List.getElem?_eq_getElem hk⟩
  have c1 : w1.cell? ⟨lb, lo + k, none⟩ = some (.int .i64 z) := k2.cell (HL.out k z hz) (fun e => hb (Option.some.inj e))
  have K := Lib.hid (And.intro k1 k2)
  have Z := Lib.hid (List.mem_of_getElem? hz)
  clear k1 k2 hk hz hb
  go_wp2_with fail
  go_ret
  exact ⟨z, Z.out, rfl, K.out.1, K.out.2⟩

theorem cells_at (w : World) (zs : List Int) (t : TypeId) : ∀ j z, zs[j]? = some z → (w.alloc (.cells (ints zs).toArray t)).cell? ⟨w.heap.size, 0 + j, none⟩ = some (.int .i64 z) := by
  intro j z h
  rw [Nat.zero_add, cell_of_row (w.alloc (.cells (ints zs).toArray t)) w.heap.size j _ _ _ (heap_alloc_new w _)]
  unfold ints
  rw [List.getElem?_toArray, List.getElem?_map, h]
  rfl

theorem wf_of_small {x : Int} (h1 : -1000000000 ≤ x) (h2 : x ≤ 1000000000) : (Lit.int .i64 x).wf = true := WalkArith.wf_i64 (by omega)

/-- What a new cursor leaves: it stands at the first byte, in a block of its own. -/
def Fresh (w : World) (A : Option Addr) (n c : Nat) (bs : List UInt8) (e : Ending) (w' : World) : Prop :=
  ∃ g, e = .returned (.pointer (some ⟨g, 0, none⟩)) ∧ w.heap.size ≤ g ∧ Ready w' g A n c bs ∧ Below w.heap.size w w'

set_option maxHeartbeats 1000000 in
theorem new (w : World) (A : Option Addr) (n c : Nat) (bs : List UInt8) (hn : bs.length = n) (hb : n ≤ 4096) (hr : Rd w w.heap.size A (u8s bs)) :
    Calls Tryz.prog 24 #[.slice A n c] w (Fresh w A n c bs) := by
  have HR := Lib.hid hr
  have HN := Lib.hid hn
  clear hr hn
  go_enter Tryz.func24, Tryz.ntmps24
  go_wp2
  go_loop [3, 4] (fun h i => ∃ k : Nat, k ≤ n ∧ i = .int .i64 k ∧ ∃ x : Int, h = .int .i64 x ∧ 0 ≤ x ∧ x ≤ 1073741823) (fun _ i => n - (intOf i).toNat)
  case atStart => exact ⟨0, Nat.zero_le _, rfl, _, rfl, by omega, by omega⟩
  case round =>
    obtain ⟨k, hk, rfl, x, rfl, hx1, hx2⟩ := hrel
    by_cases hlt : k < n ∧ k < 4000
    · obtain ⟨hlt, hlt2⟩ := hlt
      have hkz : k < bs.length := by rw [HN.out]; exact hlt
      have hl : k < (u8s bs).length := by unfold u8s; rw [List.length_map]; exact hkz
      obtain ⟨y, hy⟩ : ∃ y, bs[k]? = some y := ⟨_, List.getElem?_eq_getElem hkz⟩
      obtain ⟨b1, o1, eA, _, g1⟩ := HR.out.get hl
      have c1 : w.cell? ⟨b1, o1 + k, none⟩ = some (.int .u8 y.toNat) := g1 k _ (by unfold u8s; rw [List.getElem?_map, hy]; rfl)
      have hyb : y.toNat < 256 := y.toNat_lt
      obtain ⟨m1, m2⟩ := bits_and_mask (x * 167 + y.toNat + 29) 1073741823 (by decide)
      have d1 : decide ((k : Int) < (n : Int)) = true := decide_eq_true (by omega)
      have d2 : decide ((k : Int) < 4000) = true := decide_eq_true (by omega)
      clear g1 hy hl hkz
      subst eA
      go_wp2
      generalize bits .and .i64 (x * 167 + (y.toNat : Int) + 29) 1073741823 = z at *
      go_round
      case rel => exact ⟨k + 1, by omega, by go_num, z, rfl, m1, m2⟩
      case measure => simp [intOf]; omega
    · have F : Below w.heap.size w (w.alloc (.cells #[.slice A n c, .int .i64 0, .int .i64 x] 91)) := (Below.refl _ _).alloc (Nat.le_refl _) _
      have R : Ready (w.alloc (.cells #[.slice A n c, .int .i64 0, .int .i64 x] 91)) w.heap.size A n c bs :=
        ⟨HN.out, by omega, HR.out.below F, ⟨0, x, Nat.zero_le _, heap_alloc_new w _⟩⟩
      have FF := Lib.hid F
      have RR := Lib.hid R
      clear F R
      by_cases h1 : k < n
      · have d1 : decide ((k : Int) < (n : Int)) = true := decide_eq_true (by omega)
        have d2 : decide ((k : Int) < 4000) = false := decide_eq_false (by omega)
        clear hlt
        go_wp2
        go_ret
        exact ⟨w.heap.size, rfl, Nat.le_refl _, RR.out, FF.out⟩
      · have d1 : decide ((k : Int) < (n : Int)) = false := decide_eq_false (by omega)
        clear hlt
        go_wp2
        go_ret
        exact ⟨w.heap.size, rfl, Nat.le_refl _, RR.out, FF.out⟩

end Go.Proofs.YtokncfhpmjohdabGreat.Draw
namespace Go.Proofs.YtokncfhpmjohdabGreat.Drs
open Go.RowKit Go.ChangeShapes Go.WideShapes Go.WideElems Go.Deep Go.Proofs.YtokncfhpmjohdabGreat.Mem Go.Proofs.YtokncfhpmjohdabGreat.Rw
set_option linter.unusedVariables false
set_option linter.unusedSimpArgs false
open Go.Proofs.YtokncfhpmjohdabGreat.Strs
open Go.Proofs.YtokncfhpmjohdabGreat.Draw (Cur Ready Got GotB u8s below pick cells_at new Fresh)
open Go.Proofs.YtokncfhpmjohdabGreat.Rw (owns_below owns_grown owns_base)

theorem ready_below {w w' : World} {g n c : Nat} {A : Option Addr} {bs : List UInt8} (h : Ready w g A n c bs) (k : Below w.heap.size w w') : Ready w' g A n c bs := by
  refine ⟨h.len, h.max, ?_, h.cur.kept (k.block g h.cur.lt)⟩
  rcases h.rd with h1 | ⟨b, o, e, hb, hx⟩
  · exact Or.inl h1
  · exact Or.inr ⟨b, o, e, hb, fun j v hv => (k.cell (p := ⟨b, o + j, none⟩) (Nat.lt_trans hb h.cur.lt)).trans (hx j v hv)⟩
theorem gr_below {w w' : World} {r : Option Nat} (h : Below w.heap.size w w') : w.grownBy w' r := ⟨h.os, h.tape, h.output, h.size, fun j hj _ => h.block j hj⟩
/-- A row is as it was where the cursor alone is written. -/
theorem row_next {a b : World} {base g gr q c : Nat} {e : TypeId} {s : Nat} {xs : List Value} (h : a.ownsRow base e s (.slice (some ⟨gr, 0, none⟩) q c) q xs) (k : a.grownBy b (some g)) (hg : g < base) : b.ownsRow base e s (.slice (some ⟨gr, 0, none⟩) q c) q xs :=
  owns_grown h k (fun i hi => by cases hi; intro e; have e : g = gr := Option.some.inj e; have h7 : base ≤ gr := (h.lt gr rfl).1; omega)
theorem cells_str (w : World) (zs : List ByteArray) (t : TypeId) : ∀ j z, zs[j]? = some z → (w.alloc (.cells (Strs.strs zs).toArray t)).cell? ⟨w.heap.size, 0 + j, none⟩ = some (.string z) := by
  intro j z h
  rw [Nat.zero_add, cell_of_row (w.alloc (.cells (Strs.strs zs).toArray t)) w.heap.size j _ _ _ (heap_alloc_new w _)]
  unfold Strs.strs
  rw [List.getElem?_toArray, List.getElem?_map, h]
  rfl

/-- What the draw of a text leaves: one of these. -/
def GotN (zs : List ByteArray) (w : World) (g : Nat) (A : Option Addr) (n c : Nat) (e : Ending) (w' : World) : Prop :=
  ∃ x : ByteArray, x ∈ zs ∧ e = .returned (.string x) ∧ Cur w' g A n c ∧ w.grownBy w' (some g)

/-- A text of a list that lies apart from the cursor. -/
theorem pickS {w : World} {g n c : Nat} {A : Option Addr} {bs : List UInt8} (h : Ready w g A n c bs) (lb lo lc : Nat) (zs : List ByteArray) (hb : lb ≠ g) (h1 : 1 ≤ zs.length) (h2 : zs.length ≤ 1000) (hl : ∀ j z, zs[j]? = some z → w.cell? ⟨lb, lo + j, none⟩ = some (.string z)) :
    Calls Tryz.prog 92 #[.pointer (some ⟨g, 0, none⟩), .slice (some ⟨lb, lo, none⟩) zs.length lc] w (GotN zs w g A n c) := by
  have H := Lib.hid h
  have HL := Lib.hid hl
  obtain ⟨m, hm⟩ : ∃ m, zs.length = m := ⟨_, rfl⟩
  rw [hm] at h1 h2 ⊢
  have HM := Lib.hid hm
  clear h hl hm
  go_enter Tryz.func92, Tryz.ntmps92
  go_wp2_with fail
  refine (below H.out m (by omega) (by omega)).mono ?_
  rintro e w1 ⟨x, ⟨x1, x2⟩, rfl, k1, k2⟩
  obtain ⟨k, rfl⟩ : ∃ k : Nat, x = k := ⟨x.toNat, by omega⟩
  have hk : k < zs.length := by rw [HM.out]; omega
  obtain ⟨z, hz⟩ : ∃ z, zs[k]? = some z := ⟨_, List.getElem?_eq_getElem hk⟩
  have c1 : w1.cell? ⟨lb, lo + k, none⟩ = some (.string z) := k2.cell (HL.out k z hz) (fun e => hb (Option.some.inj e))
  have K := Lib.hid (And.intro k1 k2)
  have Z := Lib.hid (List.mem_of_getElem? hz)
  clear k1 k2 hk hz hb
  go_wp2_with fail
  go_ret
  exact ⟨z, Z.out, rfl, K.out.1, K.out.2⟩
end Go.Proofs.YtokncfhpmjohdabGreat.Drs
namespace Go.Proofs.YtokncfhpmjohdabGreat.Dr2
open Go.RowKit Go.Proofs.YtokncfhpmjohdabGreat.Mem Go.Proofs.YtokncfhpmjohdabGreat.Draw Go.Proofs.YtokncfhpmjohdabGreat.P2
set_option linter.unusedVariables false

def wf (x : Int) : Prop := (Lit.int .i64 x).wf = true

/-- Block b holds the place x, y. -/
def HB (w : World) (b : Nat) (x y : Int) : Prop := w.heap[b]? = some (.cells #[.int .i64 x, .int .i64 y] 34 (0, 0))

theorem HB.c0 {w : World} {b : Nat} {x y : Int} (h : HB w b x y) : w.cell? ⟨b, 0, none⟩ = some (.int .i64 x) := by simp [World.cell?, show w.heap[b]? = _ from h]
theorem HB.c1 {w : World} {b : Nat} {x y : Int} (h : HB w b x y) : w.cell? ⟨b, 1, none⟩ = some (.int .i64 y) := by simp [World.cell?, show w.heap[b]? = _ from h]
theorem HB.f0 {w : World} {b : Nat} {x y : Int} (h : HB w b x y) : w.frozen? ⟨b, 0, none⟩ = false := by simp [World.frozen?, show w.heap[b]? = _ from h]
theorem HB.f1 {w : World} {b : Nat} {x y : Int} (h : HB w b x y) : w.frozen? ⟨b, 1, none⟩ = false := by simp [World.frozen?, show w.heap[b]? = _ from h]
theorem HB.lt {w : World} {b : Nat} {x y : Int} (h : HB w b x y) : b < w.heap.size := (Array.getElem?_eq_some_iff.1 h).1
theorem HB.grown {w w' : World} {b : Nat} {x y : Int} {r : Option Nat} (h : HB w b x y) (k : w.grownBy w' r) (hr : some b ≠ r) : HB w' b x y := (k.block b h.lt hr).trans h
theorem HB.new (w : World) (x y : Int) : HB (w.alloc (.cells #[.int .i64 x, .int .i64 y] 34)) w.heap.size x y := heap_alloc_new w _
theorem HB.alloc {w : World} {b : Nat} {x y : Int} (h : HB w b x y) (o : Obj) : HB (w.alloc o) b x y := (Below.heap_alloc _ _ _ h.lt).trans h
theorem HB.set0 {w : World} {b : Nat} {x y : Int} (u : Int) (h : HB w b x y) : HB (w.setCell ⟨b, 0, none⟩ (.int .i64 u)) b u y := by
  obtain ⟨hlt, hk⟩ := Array.getElem?_eq_some_iff.1 h
  show (w.heap.modify b _)[b]? = _
  rw [Array.getElem?_eq_getElem (by rw [Array.size_modify]; exact hlt), Array.getElem_modify_self, hk]
  rfl
theorem HB.set1 {w : World} {b : Nat} {x y : Int} (u : Int) (h : HB w b x y) : HB (w.setCell ⟨b, 1, none⟩ (.int .i64 u)) b x u := by
  obtain ⟨hlt, hk⟩ := Array.getElem?_eq_some_iff.1 h
  show (w.heap.modify b _)[b]? = _
  rw [Array.getElem?_eq_getElem (by rw [Array.size_modify]; exact hlt), Array.getElem_modify_self, hk]
  rfl
theorem HB.other {w : World} {b b' : Nat} {x y : Int} (h : HB w b x y) (j : Nat) (v : Value) (hne : b ≠ b') : HB (w.setCell ⟨b', j, none⟩ v) b x y := (Below.heap_setCell _ _ _ _ hne).trans h

theorem cur_set {w : World} {g n c : Nat} {A : Option Addr} (h : Cur w g A n c) {b : Nat} (hne : g ≠ b) (j : Nat) (v : Value) : Cur (w.setCell ⟨b, j, none⟩ v) g A n c := h.kept (Below.heap_setCell _ _ _ _ hne)
theorem grown_set {w w' : World} {r : Option Nat} (h : w.grownBy w' r) {b : Nat} (hb : w.heap.size ≤ b) (j : Nat) (v : Value) : w.grownBy (w'.setCell ⟨b, j, none⟩ v) r :=
  ⟨h.os, h.tape, h.output, by simp [World.setCell]; exact h.size, fun k hk hr => (Below.heap_setCell _ _ _ _ (by show k ≠ b; omega)).trans (h.block k hk hr)⟩
end Go.Proofs.YtokncfhpmjohdabGreat.Dr2
namespace Go.Proofs.YtokncfhpmjohdabGreat.Dr4
open Go.RowKit Go.Proofs.YtokncfhpmjohdabGreat.Mem Go.Proofs.YtokncfhpmjohdabGreat.Draw Go.Proofs.YtokncfhpmjohdabGreat.P2 Go.Proofs.YtokncfhpmjohdabGreat.Dr2 Go.Proofs.YtokncfhpmjohdabGreat.Jt Go.Proofs.YtokncfhpmjohdabGreat.Dp
set_option linter.unusedVariables false
set_option linter.unusedSimpArgs false

/-- What the draw of a valid place leaves. -/
def GotV (w : World) (g : Nat) (A : Option Addr) (n c : Nat) (e : Ending) (w' : World) : Prop :=
  ∃ x y : Int, (-64 ≤ x ∧ x ≤ 64) ∧ (-64 ≤ y ∧ y ≤ 64) ∧ e = .returned (.agg #[.int .i64 x, .int .i64 y]) ∧ Cur w' g A n c ∧ w.grownBy w' (some g)

set_option maxHeartbeats 1000000 in
theorem l2DrawV {w : World} {g n c : Nat} {A : Option Addr} {bs : List UInt8} (h : Ready w g A n c bs) :
    Calls Tryz.prog 94 #[.pointer (some ⟨g, 0, none⟩)] w (GotV w g A n c) := by
  have hlt := h.cur.lt
  have H1 := Lib.hid (h.alloc (.cells #[.int .i64 0, .int .i64 0] 34))
  have G0 := Lib.hid (World.grownBy_alloc w (.cells #[.int .i64 0, .int .i64 0] 34) (some g))
  have B0 := Lib.hid (HB.new w 0 0)
  have NE := Lib.hid (show w.heap.size ≠ g by omega)
  clear h hlt
  go_enter Tryz.func94, Tryz.ntmps94
  go_wp2_with fail
  refine (some_ H1.out (-64) 64 (by decide) (by decide) (by decide)).mono ?_
  rintro e w1 ⟨x, hx, rfl, k1, k2⟩
  have R1 := Lib.hid (H1.out.next k2 k1)
  have G1 := Lib.hid (Draw.grown_trans G0.out k2)
  have B1 := Lib.hid (B0.out.grown k2 (fun e => NE.out (Option.some.inj e)))
  have X := Lib.hid hx
  clear k1 k2 hx H1 G0 B0
  go_wp2_with fail
  refine (some_ R1.out (-64) 64 (by decide) (by decide) (by decide)).mono ?_
  rintro e w2 ⟨y, hy, rfl, k1, k2⟩
  have G2 := Lib.hid (Draw.grown_trans G1.out k2)
  have C2 := Lib.hid k1
  have b2 := B1.out.grown k2 (fun e => NE.out (Option.some.inj e))
  have Y := Lib.hid hy
  have B2 := Lib.hid b2
  have d0 := b2.c0
  have d1 := b2.c1
  have e0 := b2.f0
  have e1 := b2.f1
  clear k1 k2 hy R1 G1 B1 b2
  go_wp2_with fail
  have r := (B2.out.set0 x).set1 y
  have s0 := r.c0
  have s1 := r.c1
  clear r
  (try simp only [Exit.inBlock, Exit.then])
  refine bodyPost_ret (by simp [results, Tryz.results94, go_sem, s0, s1]; try rfl) rfl ?_
  exact ⟨x, y, X.out, Y.out, rfl, cur_set (cur_set C2.out NE.out.symm _ _) NE.out.symm _ _, Dr2.grown_set (Dr2.grown_set G2.out (Nat.le_refl _) _ _) (Nat.le_refl _) _ _⟩

/-- What the draw of a valid jet leaves. -/
def GotJ (w : World) (g : Nat) (A : Option Addr) (n c : Nat) (e : Ending) (w' : World) : Prop :=
  ∃ x y h t l : Int, jt x y h t l = true ∧ e = .returned (jv x y h t l) ∧ Cur w' g A n c ∧ w.grownBy w' (some g)

set_option maxHeartbeats 2000000 in
theorem l3Draw {w : World} {g n c : Nat} {A : Option Addr} {bs : List UInt8} (h : Ready w g A n c bs) :
    Calls Tryz.prog 130 #[.pointer (some ⟨g, 0, none⟩)] w (GotJ w g A n c) := by
  have hlt := h.cur.lt
  have H1 := Lib.hid (h.alloc (.cells (jc 0 0 0 0 0) 47))
  have G1 := Lib.hid (World.grownBy_alloc w (.cells (jc 0 0 0 0 0) 47) (some g))
  have B1 := Lib.hid (JB.new w 0 0 0 0 0)
  have NE := Lib.hid (show w.heap.size ≠ g by omega)
  clear h hlt
  go_enter Tryz.func130, Tryz.ntmps130
  go_wp2_with fail
  refine (l2DrawV H1.out).mono ?_
  rintro e w1 ⟨x, y, hx, hy, rfl, k1, k2⟩
  have H2 := Lib.hid (H1.out.next k2 k1)
  have G2 := Lib.hid (Draw.grown_trans G1.out k2)
  have B2 := Lib.hid (B1.out.grown k2 (fun e => NE.out (Option.some.inj e)))
  have X := Lib.hid (And.intro hx hy)
  clear k1 k2 hx hy H1 G1 B1
  go_wp2_with fail
  refine (below H2.out 4 (by decide) (by decide)).mono ?_
  rintro e w2 ⟨h, hh, rfl, k1, k2⟩
  have H3 := Lib.hid (H2.out.next k2 k1)
  have G3 := Lib.hid (Draw.grown_trans G2.out k2)
  have B3 := Lib.hid (B2.out.grown k2 (fun e => NE.out (Option.some.inj e)))
  have HH := Lib.hid hh
  clear k1 k2 hh H2 G2 B2
  go_wp2_with fail
  refine (below H3.out 17 (by decide) (by decide)).mono ?_
  rintro e w3 ⟨t, ht, rfl, k1, k2⟩
  have H4 := Lib.hid (H3.out.next k2 k1)
  have G4 := Lib.hid (Draw.grown_trans G3.out k2)
  have B4 := Lib.hid (B3.out.grown k2 (fun e => NE.out (Option.some.inj e)))
  have HT := Lib.hid ht
  clear k1 k2 ht H3 G3 B3
  go_wp2_with fail
  refine (some_ H4.out 1 32 (by decide) (by decide) (by decide)).mono ?_
  rintro e w4 ⟨l, hl, rfl, k1, k2⟩
  have C5 := Lib.hid k1
  have G5 := Lib.hid (Draw.grown_trans G4.out k2)
  have b5 := B4.out.grown k2 (fun e => NE.out (Option.some.inj e))
  have HL := Lib.hid hl
  have B5 := Lib.hid b5
  obtain ⟨d0, d1, d2, d3, d4⟩ := b5.c
  have e0 := b5.f 0
  have e1 := b5.f 1
  have e2 := b5.f 2
  have e3 := b5.f 3
  have e4 := b5.f 4
  clear k1 k2 hl H4 G4 B4 b5
  go_wp2_with fail
  obtain ⟨s0, s1, s2, s3, s4⟩ := (B5.out.set x y h t l).c
  (try simp only [Exit.inBlock, Exit.then])
  refine bodyPost_ret (by simp [results, Tryz.results130, go_sem, s0, s1, s2, s3, s4]; try rfl) rfl ?_
  refine ⟨x, y, h, t, l, ?_, rfl, ?_, ?_⟩
  · have hX := X.out
    have h1 := HH.out
    have h2 := HT.out
    have h3 := HL.out
    exact jt_iff.2 (by omega)
  · exact cur_set (cur_set (cur_set (cur_set (cur_set C5.out NE.out.symm _ _) NE.out.symm _ _) NE.out.symm _ _) NE.out.symm _ _) NE.out.symm _ _
  · exact Dr2.grown_set (Dr2.grown_set (Dr2.grown_set (Dr2.grown_set (Dr2.grown_set G5.out (Nat.le_refl _) _ _) (Nat.le_refl _) _ _) (Nat.le_refl _) _ _) (Nat.le_refl _) _ _) (Nat.le_refl _) _ _

end Go.Proofs.YtokncfhpmjohdabGreat.Dr4
namespace Go.Proofs.YtokncfhpmjohdabGreat.Dr6
open Go.RowKit Go.ChangeShapes Go.WideShapes Go.WideElems Go.Deep Go.Proofs.YtokncfhpmjohdabGreat.Mem Go.Proofs.YtokncfhpmjohdabGreat.Rw Go.Proofs.YtokncfhpmjohdabGreat.Pw Go.Proofs.YtokncfhpmjohdabGreat.P2 Go.Proofs.YtokncfhpmjohdabGreat.Dd Go.Proofs.YtokncfhpmjohdabGreat.Dv Go.Proofs.YtokncfhpmjohdabGreat.Dl Go.Proofs.YtokncfhpmjohdabGreat.Ds
set_option linter.unusedVariables false
set_option linter.unusedSimpArgs false
open Go.Proofs.YtokncfhpmjohdabGreat.Bxd Go.Proofs.YtokncfhpmjohdabGreat.Strs Go.Proofs.YtokncfhpmjohdabGreat.Drs Go.Proofs.YtokncfhpmjohdabGreat.Jt Go.Proofs.YtokncfhpmjohdabGreat.Dp
open Go.Proofs.YtokncfhpmjohdabGreat.Draw (Cur Ready Got GotB u8s below once some_ pick cells_at new Fresh)
open Go.Proofs.YtokncfhpmjohdabGreat.Dr2 (HB cur_set)
open Go.Proofs.YtokncfhpmjohdabGreat.Dr4
open Go.Proofs.YtokncfhpmjohdabGreat.Rw (owns_below owns_grown owns_base)

/-- A device's cells, written. -/
abbrev put8 (w : World) (b : Nat) (d : D) : World := (((((((w.setCell ⟨b, 0, none⟩ (.string d.nm)).setCell ⟨b, 1, none⟩ (.int .i64 d.kd)).setCell ⟨b, 2, none⟩ (.string d.ln)).setCell ⟨b, 3, none⟩ (.int .i64 d.x)).setCell ⟨b, 4, none⟩ (.int .i64 d.y)).setCell ⟨b, 5, none⟩ (.int .i64 d.hd)).setCell ⟨b, 6, none⟩ (.int .i64 d.tl)).setCell ⟨b, 7, none⟩ (.int .i64 d.ms)
set_option maxHeartbeats 1000000 in
theorem bx_put {w : World} {b : Nat} {e : D} (h : Bx w b e) (d : D) : Bx (put8 w b d) b d := by
  have h1 : (w.setCell ⟨b, 0, none⟩ (.string d.nm)).heap[b]? = some (.cells (ca d.nm e.kd e.ln e.x e.y e.hd e.tl e.ms) 36 (0, 0)) := heap_setCell_same _ b 0 _ _ _ h
  have h2 : ((w.setCell ⟨b, 0, none⟩ (.string d.nm)).setCell ⟨b, 1, none⟩ (.int .i64 d.kd)).heap[b]? = some (.cells (ca d.nm d.kd e.ln e.x e.y e.hd e.tl e.ms) 36 (0, 0)) := heap_setCell_same _ b 1 _ _ _ h1
  have h3 : (((w.setCell ⟨b, 0, none⟩ (.string d.nm)).setCell ⟨b, 1, none⟩ (.int .i64 d.kd)).setCell ⟨b, 2, none⟩ (.string d.ln)).heap[b]? = some (.cells (ca d.nm d.kd d.ln e.x e.y e.hd e.tl e.ms) 36 (0, 0)) := heap_setCell_same _ b 2 _ _ _ h2
  have h4 : ((((w.setCell ⟨b, 0, none⟩ (.string d.nm)).setCell ⟨b, 1, none⟩ (.int .i64 d.kd)).setCell ⟨b, 2, none⟩ (.string d.ln)).setCell ⟨b, 3, none⟩ (.int .i64 d.x)).heap[b]? = some (.cells (ca d.nm d.kd d.ln d.x e.y e.hd e.tl e.ms) 36 (0, 0)) := heap_setCell_same _ b 3 _ _ _ h3
  have h5 : (((((w.setCell ⟨b, 0, none⟩ (.string d.nm)).setCell ⟨b, 1, none⟩ (.int .i64 d.kd)).setCell ⟨b, 2, none⟩ (.string d.ln)).setCell ⟨b, 3, none⟩ (.int .i64 d.x)).setCell ⟨b, 4, none⟩ (.int .i64 d.y)).heap[b]? = some (.cells (ca d.nm d.kd d.ln d.x d.y e.hd e.tl e.ms) 36 (0, 0)) := heap_setCell_same _ b 4 _ _ _ h4
  have h6 : ((((((w.setCell ⟨b, 0, none⟩ (.string d.nm)).setCell ⟨b, 1, none⟩ (.int .i64 d.kd)).setCell ⟨b, 2, none⟩ (.string d.ln)).setCell ⟨b, 3, none⟩ (.int .i64 d.x)).setCell ⟨b, 4, none⟩ (.int .i64 d.y)).setCell ⟨b, 5, none⟩ (.int .i64 d.hd)).heap[b]? = some (.cells (ca d.nm d.kd d.ln d.x d.y d.hd e.tl e.ms) 36 (0, 0)) := heap_setCell_same _ b 5 _ _ _ h5
  have h7 : (((((((w.setCell ⟨b, 0, none⟩ (.string d.nm)).setCell ⟨b, 1, none⟩ (.int .i64 d.kd)).setCell ⟨b, 2, none⟩ (.string d.ln)).setCell ⟨b, 3, none⟩ (.int .i64 d.x)).setCell ⟨b, 4, none⟩ (.int .i64 d.y)).setCell ⟨b, 5, none⟩ (.int .i64 d.hd)).setCell ⟨b, 6, none⟩ (.int .i64 d.tl)).heap[b]? = some (.cells (ca d.nm d.kd d.ln d.x d.y d.hd d.tl e.ms) 36 (0, 0)) := heap_setCell_same _ b 6 _ _ _ h6
  have h8 : ((((((((w.setCell ⟨b, 0, none⟩ (.string d.nm)).setCell ⟨b, 1, none⟩ (.int .i64 d.kd)).setCell ⟨b, 2, none⟩ (.string d.ln)).setCell ⟨b, 3, none⟩ (.int .i64 d.x)).setCell ⟨b, 4, none⟩ (.int .i64 d.y)).setCell ⟨b, 5, none⟩ (.int .i64 d.hd)).setCell ⟨b, 6, none⟩ (.int .i64 d.tl)).setCell ⟨b, 7, none⟩ (.int .i64 d.ms)).heap[b]? = some (.cells (ca d.nm d.kd d.ln d.x d.y d.hd d.tl d.ms) 36 (0, 0)) := heap_setCell_same _ b 7 _ _ _ h7
  exact h8
theorem put8_grown {w0 w : World} {r : Option Nat} (h : w0.grownBy w r) {b : Nat} (hb : w0.heap.size ≤ b) (d : D) : w0.grownBy (put8 w b d) r :=
  Dr2.grown_set (Dr2.grown_set (Dr2.grown_set (Dr2.grown_set (Dr2.grown_set (Dr2.grown_set (Dr2.grown_set (Dr2.grown_set h hb _ _) hb _ _) hb _ _) hb _ _) hb _ _) hb _ _) hb _ _) hb _ _
theorem put8_cur {w : World} {g n c b : Nat} {A : Option Addr} (h : Cur w g A n c) (hne : g ≠ b) (d : D) : Cur (put8 w b d) g A n c :=
  cur_set (cur_set (cur_set (cur_set (cur_set (cur_set (cur_set (cur_set h hne _ _) hne _ _) hne _ _) hne _ _) hne _ _) hne _ _) hne _ _) hne _ _
theorem put8_block {w : World} {b j : Nat} (h : j ≠ b) (d : D) : (put8 w b d).heap[j]? = w.heap[j]? :=
  (Below.heap_setCell _ _ _ _ h).trans ((Below.heap_setCell _ _ _ _ h).trans ((Below.heap_setCell _ _ _ _ h).trans ((Below.heap_setCell _ _ _ _ h).trans ((Below.heap_setCell _ _ _ _ h).trans ((Below.heap_setCell _ _ _ _ h).trans ((Below.heap_setCell _ _ _ _ h).trans (Below.heap_setCell _ _ _ _ h)))))))
theorem put8_cell {w : World} {b : Nat} {p : Addr} {v : Value} (h : w.cell? p = some v) (hp : p.block ≠ b) (d : D) : (put8 w b d).cell? p = some v := (World.cell?_of_block (put8_block hp d)).trans h
theorem put8_ready {w : World} {g n c b : Nat} {A : Option Addr} {bs : List UInt8} (h : Ready w g A n c bs) (hb : g < b) (d : D) : Ready (put8 w b d) g A n c bs :=
  ⟨h.len, h.max, h.rd.keep fun p hp => World.cell?_of_block (put8_block (by omega) d), put8_cur h.cur (by omega) d⟩
theorem ready_drew {w : World} {g n c : Nat} {A : Option Addr} {bs : List UInt8} (h : Ready w g A n c bs) : Ready w.drew g A n c bs := ⟨h.len, h.max, h.rd, h.cur⟩
theorem grown_drew {w w' : World} {r : Option Nat} (h : w.grownBy w' r) : w.grownBy w'.drew r := ⟨h.os, h.tape, h.output, h.size, h.block⟩

/-- What the draw of a device leaves. -/
def GotD (P : D → Prop) (w : World) (g : Nat) (A : Option Addr) (n c : Nat) (e : Ending) (w' : World) : Prop :=
  ∃ (s : ByteArray) (q : Int) (l : ByteArray) (x y h t m : Int), P ⟨s, q, l, x, y, h, t, m⟩ ∧ e = .returned (va s q l x y h t m) ∧ Cur w' g A n c ∧ w.grownBy w' (some g)
def Noz (a b : ByteArray) (d : D) : Prop := d.nm = a ∧ d.kd = 2 ∧ d.ln = b ∧ (∃ l, jt d.x d.y d.hd d.tl l = true) ∧ 0 ≤ d.ms ∧ d.ms ≤ 32

set_option maxRecDepth 100000 in
set_option maxHeartbeats 2000000 in
theorem l6Nozzle {w : World} {g n c : Nat} {A : Option Addr} {bs : List UInt8} (h : Ready w g A n c bs) (a b : ByteArray) :
    Calls Tryz.prog 91 #[.pointer (some ⟨g, 0, none⟩), .string a, .string b] w (GotD (Noz a b) w g A n c) := by
  have hlt := h.cur.lt
  have H1 := Lib.hid (h.alloc (.cells (ca ⟨#[]⟩ 0 ⟨#[]⟩ 0 0 0 0 0) 36))
  have G1 := Lib.hid (World.grownBy_alloc w (.cells (ca ⟨#[]⟩ 0 ⟨#[]⟩ 0 0 0 0 0) 36) (some g))
  have B1 := Lib.hid (Bx.new w ⟨#[]⟩ 0 ⟨#[]⟩ 0 0 0 0 0)
  have NE := Lib.hid (show w.heap.size ≠ g by omega)
  have LT0 := Lib.hid hlt
  clear h hlt
  go_enter Tryz.func91, Tryz.ntmps91
  go_wp2_with fail
  refine (l3Draw H1.out).mono ?_
  rintro e w1 ⟨x, y, hh, t, l, hj, rfl, k1, k2⟩
  have H2 := H1.out.next k2 k1
  have G2 := Draw.grown_trans G1.out k2
  have B2 := B1.out.grown k2 (fun e => NE.out (Option.some.inj e))
  have X := Lib.hid hj
  have LT1 := Lib.hid k1.lt
  have LT2 := Lib.hid B2.lt
  have J3 := Lib.hid (JB.new w1 x y hh t l)
  have H3 := Lib.hid (H2.alloc (.cells (jc x y hh t l) 47))
  have G3 := Lib.hid (Draw.grown_trans G2 (World.grownBy_alloc w1 (.cells (jc x y hh t l) 47) (some g)))
  have B3 := Lib.hid (B2.alloc (.cells (jc x y hh t l) 47))
  clear k1 k2 hj H1 G1 B1 H2 G2 B2
  go_wp2_with fail
  refine wp_region_noPanic ?_
  refine wp_region_held_drew (S := (fun w' => w'.cell? ⟨w1.heap.size, 0, none⟩ = some (.int .i64 x) ∧ w'.cell? ⟨w1.heap.size, 1, none⟩ = some (.int .i64 y) ∧ w'.cell? ⟨w1.heap.size, 2, none⟩ = some (.int .i64 hh) ∧ w'.cell? ⟨w1.heap.size, 3, none⟩ = some (.int .i64 t) ∧ Ready w' g A n c bs ∧ w.grownBy w' (some g))) (by kernel_rfl) ?_ (fun hH => ?_)
  · exact ⟨J3.out.c.1, J3.out.c.2.1, J3.out.c.2.2.1, J3.out.c.2.2.2.1, ready_drew H3.out, grown_drew G3.out⟩
  refine wpAnyH_take (i := 0) (oi := { dst := some 10, op := _, type := _, pos := _, after := _, guard := _ }) (v := ?_) rfl (by kernel_rfl) (by kernel_rfl) (by kernel_rfl) (fun _ _ _ h => h) (Or.inl ⟨by rfl, ?_⟩) hH ?_
  rotate_left 1
  · intro W hSw
    (try dsimp only at hSw)
    go_simp
    (try with_reducible rfl)
  try simp only [Act.put, List.setIfInBounds_toArray, List.set_cons_zero, List.set_cons_succ]
  refine wpAnyH_take (i := 1) (oi := { dst := some 11, op := _, type := _, pos := _, after := _, guard := _ }) (v := ?_) rfl (by kernel_rfl) (by kernel_rfl) (by kernel_rfl) (fun _ _ _ h => h) (Or.inl ⟨by rfl, ?_⟩) hH ?_
  rotate_left 1
  · intro W hSw
    (try dsimp only at hSw)
    go_simp
    (try with_reducible rfl)
  try simp only [Act.put, List.setIfInBounds_toArray, List.set_cons_zero, List.set_cons_succ]
  refine wpAnyH_take (i := 2) (oi := { dst := some 12, op := _, type := _, pos := _, after := _, guard := _ }) (v := ?_) rfl (by kernel_rfl) (by kernel_rfl) (by kernel_rfl) (fun _ _ _ h => h) (Or.inl ⟨by rfl, ?_⟩) hH ?_
  rotate_left 1
  · intro W hSw
    (try dsimp only at hSw)
    go_simp
    (try with_reducible rfl)
  try simp only [Act.put, List.setIfInBounds_toArray, List.set_cons_zero, List.set_cons_succ]
  refine wpAnyH_take (i := 3) (oi := { dst := some 13, op := _, type := _, pos := _, after := _, guard := _ }) (v := ?_) rfl (by kernel_rfl) (by kernel_rfl) (by kernel_rfl) (fun _ _ _ h => h) (Or.inl ⟨by rfl, ?_⟩) hH ?_
  rotate_left 1
  · intro W hSw
    (try dsimp only at hSw)
    go_simp
    (try with_reducible rfl)
  try simp only [Act.put, List.setIfInBounds_toArray, List.set_cons_zero, List.set_cons_succ]
  refine wpAnyH_take (i := 4) (oi := { dst := some 14, op := _, type := _, pos := _, after := _, guard := _ }) (v := ?_) rfl (by kernel_rfl) (by kernel_rfl) (by kernel_rfl) (fun _ _ _ h => h) (Or.inl ⟨by rfl, ?_⟩) hH ?_
  rotate_left 1
  · intro W hSw
    (try dsimp only at hSw)
    go_simp
    (try with_reducible rfl)
  try simp only [Act.put, List.setIfInBounds_toArray, List.set_cons_zero, List.set_cons_succ]
  refine wpAnyH_take (i := 5) (oi := { dst := some 15, op := _, type := _, pos := _, after := _, guard := _ }) (v := ?_) rfl (by kernel_rfl) (by kernel_rfl) (by kernel_rfl) (fun _ _ _ h => h) (Or.inl ⟨by rfl, ?_⟩) hH ?_
  rotate_left 1
  · intro W hSw
    (try dsimp only at hSw)
    go_simp
    (try with_reducible rfl)
  try simp only [Act.put, List.setIfInBounds_toArray, List.set_cons_zero, List.set_cons_succ]
  refine wpAnyH_take (i := 6) (oi := { dst := some 16, op := _, type := _, pos := _, after := _, guard := _ }) (v := ?_) rfl (by kernel_rfl) (by kernel_rfl) (by kernel_rfl) (fun _ _ _ h => h) (Or.inl ⟨by rfl, ?_⟩) hH ?_
  rotate_left 1
  · intro W hSw
    (try dsimp only at hSw)
    go_simp
    (try with_reducible rfl)
  try simp only [Act.put, List.setIfInBounds_toArray, List.set_cons_zero, List.set_cons_succ]
  refine wpAnyH_take (i := 7) (oi := { dst := some 17, op := _, type := _, pos := _, after := _, guard := _ }) (v := ?_) rfl (by kernel_rfl) (by kernel_rfl) (by kernel_rfl) (fun _ _ _ h => h) (Or.inl ⟨by rfl, ?_⟩) hH ?_
  rotate_left 1
  · intro W hSw
    (try dsimp only at hSw)
    go_simp
    (try with_reducible rfl)
  try simp only [Act.put, List.setIfInBounds_toArray, List.set_cons_zero, List.set_cons_succ]
  refine wpAnyH_take (i := 8) (oi := { dst := some 18, op := _, type := _, pos := _, after := _, guard := _ }) (v := ?_) rfl (by kernel_rfl) (by kernel_rfl) (by kernel_rfl) (fun _ _ _ h => h) (Or.inl ⟨by rfl, ?_⟩) hH ?_
  rotate_left 1
  · intro W hSw
    (try dsimp only at hSw)
    go_simp
    (try with_reducible rfl)
  try simp only [Act.put, List.setIfInBounds_toArray, List.set_cons_zero, List.set_cons_succ]
  refine wpAnyH_ready (rs := [9]) (by kernel_rfl) (by simp) (AllReadyH.cons rfl (fun K hK => ?_) AllReadyH.nil)
  go_simp
  go_at_call 131; ((with_reducible refine (some_ hH.2.2.2.2.1 0 32 (by decide) (by decide) (by decide)).mono ?_); rintro e r1 ⟨m, hm, rfl, k1, k2⟩); have b4 := Bx.grown (w := (w1.alloc (.cells (jc x y hh t l) 47)).drew) B3.out k2 (fun e => NE.out (Option.some.inj e)); have fz := b4.f; obtain ⟨d0, d1, d2, d3, d4, d5, d6, d7⟩ := b4.c; go_wp2_with fail
  refine hK.out _ _ ?_ (fun hG => ?_)
  · exact ⟨k2.cell hH.1 (fun e => by have e : w1.heap.size = g := Option.some.inj e; have := LT1.out; omega), k2.cell hH.2.1 (fun e => by have e : w1.heap.size = g := Option.some.inj e; have := LT1.out; omega), k2.cell hH.2.2.1 (fun e => by have e : w1.heap.size = g := Option.some.inj e; have := LT1.out; omega), k2.cell hH.2.2.2.1 (fun e => by have e : w1.heap.size = g := Option.some.inj e; have := LT1.out; omega), hH.2.2.2.2.1.next k2 k1, Draw.grown_trans hH.2.2.2.2.2 k2⟩
  replace hH := hG
  clear hK K hG
  try simp only [Act.put, List.setIfInBounds_toArray, List.set_cons_zero, List.set_cons_succ]
  refine wpAnyH_take (i := 10) (oi := { dst := some 20, op := _, type := _, pos := _, after := _, guard := _ }) (v := ?_) rfl (by kernel_rfl) (by kernel_rfl) (by kernel_rfl) (fun _ _ _ h => h) (Or.inl ⟨by rfl, ?_⟩) hH ?_
  rotate_left 1
  · intro W hSw
    (try dsimp only at hSw)
    go_simp
    (try with_reducible rfl)
  try simp only [Act.put, List.setIfInBounds_toArray, List.set_cons_zero, List.set_cons_succ]
  refine wpAnyH_ready (rs := [11]) (by kernel_rfl) (by simp) (AllReadyH.cons rfl (fun K hK => ?_) AllReadyH.nil)
  go_simp
  refine hK.out _ _ ?_ (fun hG => ?_)
  · exact ⟨put8_cell hH.1 (by have := LT2.out; show w1.heap.size ≠ w.heap.size; omega) (⟨a, 2, b, x, y, hh, t, m⟩ : D), put8_cell hH.2.1 (by have := LT2.out; show w1.heap.size ≠ w.heap.size; omega) (⟨a, 2, b, x, y, hh, t, m⟩ : D), put8_cell hH.2.2.1 (by have := LT2.out; show w1.heap.size ≠ w.heap.size; omega) (⟨a, 2, b, x, y, hh, t, m⟩ : D), put8_cell hH.2.2.2.1 (by have := LT2.out; show w1.heap.size ≠ w.heap.size; omega) (⟨a, 2, b, x, y, hh, t, m⟩ : D), put8_ready hH.2.2.2.2.1 LT0.out (⟨a, 2, b, x, y, hh, t, m⟩ : D), put8_grown hH.2.2.2.2.2 (Nat.le_refl _) (⟨a, 2, b, x, y, hh, t, m⟩ : D)⟩
  replace hH := hG
  clear hK K hG
  try simp only [Act.put, List.setIfInBounds_toArray, List.set_cons_zero, List.set_cons_succ]
  refine wpAnyH_done (by kernel_rfl) ?_ _
  refine NoPanic.normal ?_
  have S9 := Lib.hid hH.2.2.2.2
  clear hH
  go_wp2_with fail
  (try simp only [Exit.inBlock, Exit.then])
  obtain ⟨s0, s1, s2, s3, s4, s5, s6, s7⟩ := (bx_put b4 (⟨a, 2, b, x, y, hh, t, m⟩ : D)).c
  have M := Lib.hid hm
  clear d0 d1 d2 d3 d4 d5 d6 d7 fz k1 k2 hm
  unfold put8 at s0 s1 s2 s3 s4 s5 s6 s7
  refine bodyPost_ret (v := va a 2 b x y hh t m) (by simp only [results, Tryz.results91, s0, s1, s2, s3, s4, s5, s6, s7]; simp [go_sem, s0, s1, s2, s3, s4, s5, s6, s7]; try rfl) rfl ?_
  exact ⟨a, 2, b, x, y, hh, t, m, ⟨rfl, rfl, rfl, ⟨l, X.out⟩, M.out.1, M.out.2⟩, rfl, S9.out.1.cur, S9.out.2⟩

end Go.Proofs.YtokncfhpmjohdabGreat.Dr6
