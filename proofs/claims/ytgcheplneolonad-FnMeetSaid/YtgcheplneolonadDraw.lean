/- What the model's own cursor over a draw's bytes does: each draw is some number within its bounds, and nothing but the cursor is written. -/
import Derived.Test.YtgcheplneolonadMem
namespace Go.Proofs.Ytgcheplneolonad.Draw
open Go.RowKit Go.Proofs.Ytgcheplneolonad.Mem

theorem grown_trans {a b c : World} {row : Option Nat} (h : a.grownBy b row) (k : b.grownBy c row) : a.grownBy c row :=
  ⟨k.os.trans h.os, k.tape.trans h.tape, k.output.trans h.output, Nat.le_trans h.size k.size, fun i hi hr => (k.block i (Nat.lt_of_lt_of_le hi h.size) hr).trans (h.block i hi hr)⟩

/-- The cursor at block g: over the bytes at A, n of them. -/
def Cur (w : World) (g : Nat) (A : Option Addr) (n c : Nat) : Prop :=
  ∃ (i : Nat) (h : Int), i ≤ n ∧ w.heap[g]? = some (.cells #[.slice A n c, .int .i64 i, .int .i64 h] 86 (0, 0))

theorem grownBy_setCell (w : World) (g j : Nat) (v : Value) : w.grownBy (w.setCell ⟨g, j, none⟩ v) (some g) :=
  ⟨rfl, rfl, rfl, by simp, fun k _ hk => Below.heap_setCell _ _ _ _ (fun e => hk (by rw [e]))⟩

theorem grownBy_drewN (w : World) (k : Nat) (row : Option Nat) : w.grownBy (w.drewN k) row := ⟨rfl, rfl, rfl, Nat.le_refl _, fun _ _ _ => rfl⟩

def u8s (bs : List UInt8) : List Value := bs.map fun b => Value.int .u8 b.toNat

theorem bits_and_mask (a : Int) (m : Nat) (hm : m < 9223372036854775808) : 0 ≤ bits .and .i64 a m ∧ bits .and .i64 a m ≤ m := by
  unfold bits
  have hb : IntKind.i64.bits = 64 := rfl
  simp only [IntKind.wrap, BitVec.toNat_and, BitVec.toNat_ofInt]
  have h1 : ((a % ((2 ^ IntKind.i64.bits : Nat) : Int)).toNat &&& ((m : Int) % ((2 ^ IntKind.i64.bits : Nat) : Int)).toNat) ≤ m := by
    refine Nat.le_trans Nat.and_le_right ?_
    rw [hb]; omega
  generalize ((a % ((2 ^ IntKind.i64.bits : Nat) : Int)).toNat &&& ((m : Int) % ((2 ^ IntKind.i64.bits : Nat) : Int)).toNat) = Y at *
  rw [hb]
  have hy : (Y : Int) % 2 ^ 64 = Y := by omega
  rw [hy]
  split
  · rename_i h
    have h3 := (Bool.and_eq_true_iff.1 h).2
    have := of_decide_eq_true h3
    omega
  · omega

/-- What a draw leaves: some number with P; the cursor alone is written. -/
def Got (P : Int → Prop) (w : World) (g : Nat) (A : Option Addr) (n c : Nat) (e : Ending) (w' : World) : Prop :=
  ∃ x, P x ∧ e = .returned (.int .i64 x) ∧ Cur w' g A n c ∧ w.grownBy w' (some g)

set_option maxHeartbeats 2000000 in
theorem l1Byte (w : World) (g : Nat) (A : Option Addr) (n c : Nat) (bs : List UInt8) (B : Nat) (hn : bs.length = n) (hnb : n ≤ 9223372036854775807) (hB : B ≤ g) (hr : Rd w B A (u8s bs)) (hc : Cur w g A n c) :
    Calls Try.prog 57 #[.pointer (some ⟨g, 0, none⟩)] w (Got (fun x => 0 ≤ x ∧ x ≤ 255) w g A n c) := by
  obtain ⟨i, h, hi, hblk⟩ := hc
  have c0 : w.cell? ⟨g, 0, none⟩ = some (.slice A n c) := by rw [cell_of_row w g 0 _ _ _ hblk]; rfl
  have c1 : w.cell? ⟨g, 1, none⟩ = some (.int .i64 i) := by rw [cell_of_row w g 1 _ _ _ hblk]; rfl
  have c2 : w.cell? ⟨g, 2, none⟩ = some (.int .i64 h) := by rw [cell_of_row w g 2 _ _ _ hblk]; rfl
  have f1 : w.frozen? ⟨g, 1, none⟩ = false := frozen_of_row w g 1 _ _ hblk
  have f2 : w.frozen? ⟨g, 2, none⟩ = false := frozen_of_row w g 2 _ _ hblk
  have HR := Lib.hid hr
  have HN := Lib.hid hn
  clear hr hn
  have HBK := Lib.hid hblk
  clear hblk
  go_enter Try.func57, Try.ntmps57
  go_wp2
  generalize wrap64 (wrap64 (h * 6364136223846793005) + 1442695040888963407) = h2
  obtain ⟨W1, hW1⟩ : ∃ W1, W1 = w.setCell ⟨g, 2, none⟩ (.int .i64 h2) := ⟨_, rfl⟩
  rw [← hW1]
  have bk1 : W1.heap[g]? = some (.cells #[.slice A n c, .int .i64 i, .int .i64 h2] 86 (0, 0)) := by
    rw [hW1]; exact heap_setCell_same w g 2 _ _ _ HBK.out
  have g1 : w.grownBy W1 (some g) := by rw [hW1]; exact grownBy_setCell w g 2 _
  clear hW1 c0 c1 c2 f1 f2
  have c0 : W1.cell? ⟨g, 0, none⟩ = some (.slice A n c) := by rw [cell_of_row W1 g 0 _ _ _ bk1]; rfl
  have c1 : W1.cell? ⟨g, 1, none⟩ = some (.int .i64 i) := by rw [cell_of_row W1 g 1 _ _ _ bk1]; rfl
  have c2 : W1.cell? ⟨g, 2, none⟩ = some (.int .i64 h2) := by rw [cell_of_row W1 g 2 _ _ _ bk1]; rfl
  have f1 : W1.frozen? ⟨g, 1, none⟩ = false := frozen_of_row W1 g 1 _ _ bk1
  have G1 := Lib.hid g1
  have BK1 := Lib.hid bk1
  clear g1 bk1
  go_quiet (fail)
  obtain ⟨b1, b2⟩ := bits_and_mask (bits .xor .i64 (h2 / 34359738368) (h2 / 35184372088832)) 255 (by decide)
  generalize bits .and .i64 (bits .xor .i64 (h2 / 34359738368) (h2 / 35184372088832)) 255 = x at *
  by_cases hlt : i < n
  · have hk : i < (u8s bs).length := by unfold u8s; rw [List.length_map, HN.out]; exact hlt
    have hk2 : i < bs.length := by rw [HN.out]; exact hlt
    obtain ⟨y, hy⟩ : ∃ y, bs[i]? = some y := ⟨_, List.getElem?_eq_getElem hk2⟩
    obtain ⟨b, o, eA, hbB, hcell⟩ := HR.out.get hk
    have d0 : w.cell? ⟨b, o + i, none⟩ = some (.int .u8 y.toNat) := hcell i _ (by unfold u8s; rw [List.getElem?_map, hy]; rfl)
    have d1 : W1.cell? ⟨b, o + i, none⟩ = some (.int .u8 y.toNat) := G1.out.cell d0 (fun e => by have e2 : b = g := Option.some.inj e; omega)
    have hlt' : (i : Int) < (n : Int) := by omega
    have hi0 : (0 : Int) ≤ (i : Int) := by omega
    have hyb : y.toNat < 256 := y.toNat_lt
    obtain ⟨b3, b4⟩ := bits_and_mask (x + y.toNat) 255 (by decide)
    clear d0 hcell hy hk hk2 hB hbB
    subst eA
    go_wp2
    go_quiet (fail)
    go_wp2
    go_quiet (fail)
    generalize bits .and .i64 (x + (y.toNat : Int)) 255 = z at *
    go_wp2
    go_ret
    exact ⟨z, ⟨b3, b4⟩, rfl, ⟨i + 1, h2, by omega, heap_setCell_same _ g 1 _ _ _ BK1.out⟩, grown_trans G1.out (grown_trans (grownBy_drewN _ _ _) (grownBy_setCell _ g 1 _))⟩
  · have hge : ¬ (i : Int) < (n : Int) := by omega
    have hdec : decide ((i : Int) < (n : Int)) = false := decide_eq_false hge
    go_wp2
    go_quiet (fail)
    go_wp2
    go_ret
    refine ⟨x, ⟨b1, b2⟩, rfl, ⟨i, h2, hi, BK1.out⟩, grown_trans G1.out (grown_trans (grownBy_drewN _ _ _) (grownBy_drewN _ _ _))⟩

/-- What stands at every call of a draw: the bytes can be read, and the cursor is at its place. -/
structure Ready (w : World) (g : Nat) (A : Option Addr) (n c : Nat) (bs : List UInt8) : Prop where
  len : bs.length = n
  max : n ≤ 9223372036854775807
  rd : Rd w g A (u8s bs)
  cur : Cur w g A n c

theorem Rd.grown {w w' : World} {g : Nat} {A : Option Addr} {xs : List Value} (h : Rd w g A xs) (k : w.grownBy w' (some g)) : Rd w' g A xs := by
  rcases h with h | ⟨b, o, e, hb, hx⟩
  · exact Or.inl h
  · exact Or.inr ⟨b, o, e, hb, fun j v hv => k.cell (hx j v hv) (fun e => by have e2 : b = g := Option.some.inj e; omega)⟩

theorem Ready.next {w w' : World} {g n c : Nat} {A : Option Addr} {bs : List UInt8} (h : Ready w g A n c bs) (k : w.grownBy w' (some g)) (hc : Cur w' g A n c) : Ready w' g A n c bs :=
  ⟨h.len, h.max, Rd.grown h.rd k, hc⟩

theorem byte {w : World} {g n c : Nat} {A : Option Addr} {bs : List UInt8} (h : Ready w g A n c bs) : Calls Try.prog 57 #[.pointer (some ⟨g, 0, none⟩)] w (Got (fun x => 0 ≤ x ∧ x ≤ 255) w g A n c) :=
  l1Byte w g A n c bs g h.len h.max (Nat.le_refl _) h.rd h.cur

set_option maxHeartbeats 2000000 in
theorem below {w : World} {g n c : Nat} {A : Option Addr} {bs : List UInt8} (h : Ready w g A n c bs) (m : Int) (h1 : 1 ≤ m) (h2 : m ≤ 9223372036854775807) :
    Calls Try.prog 26 #[.pointer (some ⟨g, 0, none⟩), .int .i64 m] w (Got (fun x => 0 ≤ x ∧ x < m) w g A n c) := by
  have H := Lib.hid h
  clear h
  by_cases c1 : m ≤ 256
  · go_enter Try.func26, Try.ntmps26
    go_wp2_with fail
    refine (byte H.out).mono ?_
    rintro e w1 ⟨x, ⟨x1, x2⟩, rfl, k1, k2⟩
    have K := Lib.hid (And.intro k1 k2)
    clear k1 k2
    go_wp2_with fail
    go_ret
    exact ⟨x % m, ⟨Int.emod_nonneg _ (by omega), Int.emod_lt_of_pos _ (by omega)⟩, rfl, K.out.1, K.out.2⟩
  · go_enter Try.func26, Try.ntmps26
    go_wp2_with fail
    refine (byte H.out).mono ?_
    rintro e w1 ⟨x, ⟨x1, x2⟩, rfl, k1, k2⟩
    have H1 := Lib.hid (H.out.next k2 k1)
    have K1 := Lib.hid k2
    clear k1 k2
    go_wp2_with fail
    refine (byte H1.out).mono ?_
    rintro e w2 ⟨y, ⟨y1, y2⟩, rfl, k1, k2⟩
    have H2 := Lib.hid (H1.out.next k2 k1)
    have K2 := Lib.hid (grown_trans K1.out k2)
    clear k1 k2
    go_wp2_with fail
    refine (byte H2.out).mono ?_
    rintro e w3 ⟨z, ⟨z1, z2⟩, rfl, k1, k2⟩
    have K3 := Lib.hid (And.intro k1 (grown_trans K2.out k2))
    clear k1 k2
    go_wp2_with fail
    go_ret
    exact ⟨(x * 65536 + y * 256 + z) % m, ⟨Int.emod_nonneg _ (by omega), Int.emod_lt_of_pos _ (by omega)⟩, rfl, K3.out.1, K3.out.2⟩

/-- What a yes or no leaves. -/
def GotB (w : World) (g : Nat) (A : Option Addr) (n c : Nat) (e : Ending) (w' : World) : Prop :=
  ∃ x, e = .returned (.bool x) ∧ Cur w' g A n c ∧ w.grownBy w' (some g)

theorem once {w : World} {g n c : Nat} {A : Option Addr} {bs : List UInt8} (h : Ready w g A n c bs) (m : Int) (h1 : 1 ≤ m) (h2 : m ≤ 9223372036854775807) :
    Calls Try.prog 64 #[.pointer (some ⟨g, 0, none⟩), .int .i64 m] w (GotB w g A n c) := by
  have H := Lib.hid h
  clear h
  go_enter Try.func64, Try.ntmps64
  go_wp2_with fail
  refine (below H.out m h1 h2).mono ?_
  rintro e w1 ⟨x, ⟨x1, x2⟩, rfl, k1, k2⟩
  have K := Lib.hid (And.intro k1 k2)
  clear k1 k2
  go_wp2_with fail
  go_ret
  exact ⟨_, rfl, K.out.1, K.out.2⟩

theorem some_ {w : World} {g n c : Nat} {A : Option Addr} {bs : List UInt8} (h : Ready w g A n c bs) (a b : Int) (h1 : a ≤ b) (h2 : -1000000000 ≤ a) (h3 : b ≤ 1000000000) :
    Calls Try.prog 65 #[.pointer (some ⟨g, 0, none⟩), .int .i64 a, .int .i64 b] w (Got (fun x => a ≤ x ∧ x ≤ b) w g A n c) := by
  have H := Lib.hid h
  clear h
  go_enter Try.func65, Try.ntmps65
  go_wp2_with fail
  refine (below H.out (b - a + 1) (by omega) (by omega)).mono ?_
  rintro e w1 ⟨x, ⟨x1, x2⟩, rfl, k1, k2⟩
  have K := Lib.hid (And.intro k1 k2)
  clear k1 k2
  go_wp2_with fail
  go_ret
  exact ⟨_, ⟨by omega, by omega⟩, rfl, K.out.1, K.out.2⟩

theorem Cur.lt {w : World} {g n c : Nat} {A : Option Addr} (h : Cur w g A n c) : g < w.heap.size := by
  obtain ⟨i, x, _, hb⟩ := h
  exact (Array.getElem?_eq_some_iff.1 hb).1

theorem Cur.kept {w w' : World} {g n c : Nat} {A : Option Addr} (h : Cur w g A n c) (hb : w'.heap[g]? = w.heap[g]?) : Cur w' g A n c := by
  obtain ⟨i, x, hi, hx⟩ := h
  exact ⟨i, x, hi, hb.trans hx⟩

theorem Ready.alloc {w : World} {g n c : Nat} {A : Option Addr} {bs : List UInt8} (h : Ready w g A n c bs) (o : Obj) : Ready (w.alloc o) g A n c bs :=
  h.next (World.grownBy_alloc w o _) (h.cur.kept (Below.heap_alloc _ _ _ h.cur.lt))

/-- A number of a list that lies apart from the cursor. -/
theorem pick {w : World} {g n c : Nat} {A : Option Addr} {bs : List UInt8} (h : Ready w g A n c bs) (lb lo lc : Nat) (zs : List Int) (hb : lb ≠ g) (h1 : 1 ≤ zs.length) (h2 : zs.length ≤ 1000) (hl : ∀ j z, zs[j]? = some z → w.cell? ⟨lb, lo + j, none⟩ = some (.int .i64 z)) :
    Calls Try.prog 56 #[.pointer (some ⟨g, 0, none⟩), .slice (some ⟨lb, lo, none⟩) zs.length lc] w (Got (· ∈ zs) w g A n c) := by
  have H := Lib.hid h
  have HL := Lib.hid hl
  obtain ⟨m, hm⟩ : ∃ m, zs.length = m := ⟨_, rfl⟩
  rw [hm] at h1 h2 ⊢
  have HM := Lib.hid hm
  clear h hl hm
  go_enter Try.func56, Try.ntmps56
  go_wp2_with fail
  refine (below H.out m (by omega) (by omega)).mono ?_
  rintro e w1 ⟨x, ⟨x1, x2⟩, rfl, k1, k2⟩
  obtain ⟨k, rfl⟩ : ∃ k : Nat, x = k := ⟨x.toNat, by omega⟩
  have hk : k < zs.length := by rw [HM.out]; omega
  obtain ⟨z, hz⟩ : ∃ z, zs[k]? = some z := ⟨_, List.getElem?_eq_getElem hk⟩
  have c1 : w1.cell? ⟨lb, lo + k, none⟩ = some (.int .i64 z) := k2.cell (HL.out k z hz) (fun e => hb (Option.some.inj e))
  have K := Lib.hid (And.intro k1 k2)
  have Z := Lib.hid (List.mem_of_getElem? hz)
  clear k1 k2 hk hz hb
  go_wp2_with fail
  go_ret
  exact ⟨z, Z.out, rfl, K.out.1, K.out.2⟩

theorem cells_at (w : World) (zs : List Int) (t : TypeId) : ∀ j z, zs[j]? = some z → (w.alloc (.cells (ints zs).toArray t)).cell? ⟨w.heap.size, 0 + j, none⟩ = some (.int .i64 z) := by
  intro j z h
  rw [Nat.zero_add, cell_of_row (w.alloc (.cells (ints zs).toArray t)) w.heap.size j _ _ _ (heap_alloc_new w _)]
  unfold ints
  rw [List.getElem?_toArray, List.getElem?_map, h]
  rfl

def odds : List Int := [-1, 0, 1, 2, 3, 7, 8, 9, 15, 16, 17, 63, 64, 65, 999, 1000, 4096, 4097, 9223372036854775807, -9223372036854775808]
theorem odds_wf {x : Int} (h : x ∈ odds) : (Lit.int .i64 x).wf = true := by
  unfold odds at h
  simp only [List.mem_cons, List.not_mem_nil, or_false] at h
  rcases h with h | h | h | h | h | h | h | h | h | h | h | h | h | h | h | h | h | h | h | h <;> subst h <;> decide

theorem odd {w : World} {g n c : Nat} {A : Option Addr} {bs : List UInt8} (h : Ready w g A n c bs) :
    Calls Try.prog 55 #[.pointer (some ⟨g, 0, none⟩)] w (Got (fun x => (Lit.int .i64 x).wf = true) w g A n c) := by
  have hlt := h.cur.lt
  have P := Lib.hid (pick (h.alloc (.cells (ints odds).toArray 3)) w.heap.size 0 20 odds (by omega) (by decide) (by decide) (cells_at w odds 3))
  clear h
  go_enter Try.func55, Try.ntmps55
  go_wp2_with fail
  refine P.out.mono ?_
  rintro e w1 ⟨x, hx, rfl, k1, k2⟩
  have K := Lib.hid (And.intro k1 (grown_trans (World.grownBy_alloc w _ _) k2))
  have X := Lib.hid (odds_wf hx)
  clear k1 k2 hx
  go_wp2_with fail
  go_ret
  exact ⟨x, X.out, rfl, K.out.1, K.out.2⟩

theorem wf_of_small {x : Int} (h1 : -1000000000 ≤ x) (h2 : x ≤ 1000000000) : (Lit.int .i64 x).wf = true := WalkArith.wf_i64 (by omega)

/-- What a new cursor leaves: it stands at the first byte, in a block of its own. -/
def Fresh (w : World) (A : Option Addr) (n c : Nat) (bs : List UInt8) (e : Ending) (w' : World) : Prop :=
  ∃ g, e = .returned (.pointer (some ⟨g, 0, none⟩)) ∧ w.heap.size ≤ g ∧ Ready w' g A n c bs ∧ Below w.heap.size w w'

set_option maxHeartbeats 1000000 in
theorem new (w : World) (A : Option Addr) (n c : Nat) (bs : List UInt8) (hn : bs.length = n) (hb : n ≤ 4096) (hr : Rd w w.heap.size A (u8s bs)) :
    Calls Try.prog 24 #[.slice A n c] w (Fresh w A n c bs) := by
  have HR := Lib.hid hr
  have HN := Lib.hid hn
  clear hr hn
  go_enter Try.func24, Try.ntmps24
  go_wp2
  go_loop [3, 4] (fun h i => ∃ k : Nat, k ≤ n ∧ i = .int .i64 k ∧ ∃ x : Int, h = .int .i64 x ∧ 0 ≤ x ∧ x ≤ 1073741823) (fun _ i => n - (intOf i).toNat)
  case atStart => exact ⟨0, Nat.zero_le _, rfl, _, rfl, by omega, by omega⟩
  case round =>
    obtain ⟨k, hk, rfl, x, rfl, hx1, hx2⟩ := hrel
    by_cases hlt : k < n ∧ k < 4000
    · obtain ⟨hlt, hlt2⟩ := hlt
      have hkz : k < bs.length := by rw [HN.out]; exact hlt
      have hl : k < (u8s bs).length := by unfold u8s; rw [List.length_map]; exact hkz
      obtain ⟨y, hy⟩ : ∃ y, bs[k]? = some y := ⟨_, List.getElem?_eq_getElem hkz⟩
      obtain ⟨b1, o1, eA, _, g1⟩ := HR.out.get hl
      have c1 : w.cell? ⟨b1, o1 + k, none⟩ = some (.int .u8 y.toNat) := g1 k _ (by unfold u8s; rw [List.getElem?_map, hy]; rfl)
      have hyb : y.toNat < 256 := y.toNat_lt
      obtain ⟨m1, m2⟩ := bits_and_mask (x * 167 + y.toNat + 29) 1073741823 (by decide)
      have d1 : decide ((k : Int) < (n : Int)) = true := decide_eq_true (by omega)
      have d2 : decide ((k : Int) < 4000) = true := decide_eq_true (by omega)
      clear g1 hy hl hkz
      subst eA
      go_wp2
      generalize bits .and .i64 (x * 167 + (y.toNat : Int) + 29) 1073741823 = z at *
      go_round
      case rel => exact ⟨k + 1, by omega, by go_num, z, rfl, m1, m2⟩
      case measure => simp [intOf]; omega
    · have F : Below w.heap.size w (w.alloc (.cells #[.slice A n c, .int .i64 0, .int .i64 x] 86)) := (Below.refl _ _).alloc (Nat.le_refl _) _
      have R : Ready (w.alloc (.cells #[.slice A n c, .int .i64 0, .int .i64 x] 86)) w.heap.size A n c bs :=
        ⟨HN.out, by omega, HR.out.below F, ⟨0, x, Nat.zero_le _, heap_alloc_new w _⟩⟩
      have FF := Lib.hid F
      have RR := Lib.hid R
      clear F R
      by_cases h1 : k < n
      · have d1 : decide ((k : Int) < (n : Int)) = true := decide_eq_true (by omega)
        have d2 : decide ((k : Int) < 4000) = false := decide_eq_false (by omega)
        clear hlt
        go_wp2
        go_ret
        exact ⟨w.heap.size, rfl, Nat.le_refl _, RR.out, FF.out⟩
      · have d1 : decide ((k : Int) < (n : Int)) = false := decide_eq_false (by omega)
        clear hlt
        go_wp2
        go_ret
        exact ⟨w.heap.size, rfl, Nat.le_refl _, RR.out, FF.out⟩

end Go.Proofs.Ytgcheplneolonad.Draw
