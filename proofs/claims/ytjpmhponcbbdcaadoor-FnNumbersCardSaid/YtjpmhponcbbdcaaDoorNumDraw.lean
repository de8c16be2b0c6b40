/- What the draws of numbers and texts leave. -/
import Derived.Test.YtjpmhponcbbdcaaDoorDrawN
import Derived.Test.YtjpmhponcbbdcaaDoorEqs
import Derived.Test.YtjpmhponcbbdcaaDoorFmt
import Derived.Test.YtjpmhponcbbdcaaDoorParse
namespace Go.Proofs.YtjpmhponcbbdcaaDoor.NumDraw
open Go.RowKit Go.Proofs.YtjpmhponcbbdcaaDoor.Mem Go.Proofs.YtjpmhponcbbdcaaDoor.Draw Go.Proofs.YtjpmhponcbbdcaaDoor.Strs Go.Proofs.YtjpmhponcbbdcaaDoor.Fmt

theorem ready_below {w w' : World} {g n c : Nat} {A : Option Addr} {bs : List UInt8} (h : Ready w g A n c bs) (k : Below w.heap.size w w') : Ready w' g A n c bs := by
  refine ⟨h.len, h.max, ?_, h.cur.kept (k.block g h.cur.lt)⟩
  rcases h.rd with h1 | ⟨b, o, e, hb, hx⟩
  · exact Or.inl h1
  · exact Or.inr ⟨b, o, e, hb, fun j v hv => (k.cell (p := ⟨b, o + j, none⟩) (Nat.lt_trans hb h.cur.lt)).trans (hx j v hv)⟩

def GotS (w : World) (g : Nat) (A : Option Addr) (n c : Nat) (e : Ending) (w' : World) : Prop :=
  ∃ x : ByteArray, x.size ≤ 20 ∧ e = .returned (.string x) ∧ Cur w' g A n c ∧ w.grownBy w' (some g)

theorem cells_str (w : World) (zs : List ByteArray) (t : TypeId) : ∀ j z, zs[j]? = some z → (w.alloc (.cells (strs zs).toArray t)).cell? ⟨w.heap.size, 0 + j, none⟩ = some (.string z) := by
  intro j z h
  rw [Nat.zero_add, cell_of_row (w.alloc (.cells (strs zs).toArray t)) w.heap.size j _ _ _ (heap_alloc_new w _)]
  unfold strs
  rw [List.getElem?_toArray, List.getElem?_map, h]
  rfl

/-- A text of a list that lies apart from the cursor. -/
theorem pickS {w : World} {g n c : Nat} {A : Option Addr} {bs : List UInt8} (h : Ready w g A n c bs) (lb lo lc : Nat) (zs : List ByteArray) (hb : lb ≠ g) (h1 : 1 ≤ zs.length) (h2 : zs.length ≤ 1000) (hs : ∀ z ∈ zs, z.size ≤ 20) (hl : ∀ j z, zs[j]? = some z → w.cell? ⟨lb, lo + j, none⟩ = some (.string z)) :
    Calls Tryd.prog 27 #[.pointer (some ⟨g, 0, none⟩), .slice (some ⟨lb, lo, none⟩) zs.length lc] w (GotS w g A n c) := by
  have H := Lib.hid h
  have HL := Lib.hid hl
  have HZ := Lib.hid hs
  obtain ⟨m, hm⟩ : ∃ m, zs.length = m := ⟨_, rfl⟩
  rw [hm] at h1 h2 ⊢
  have HM := Lib.hid hm
  clear h hl hm hs
  go_enter Tryd.func27, Tryd.ntmps27
  go_wp2_with fail
  refine (below H.out m (by omega) (by omega)).mono ?_
  rintro e w1 ⟨x, ⟨x1, x2⟩, rfl, k1, k2⟩
  obtain ⟨k, rfl⟩ : ∃ k : Nat, x = k := ⟨x.toNat, by omega⟩
  have hk : k < zs.length := by rw [HM.out]; omega
  obtain ⟨z, hz⟩ : ∃ z, zs[k]? = some z := ⟨_, List.getElem?_eq_getElem hk⟩
  have c1 : w1.cell? ⟨lb, lo + k, none⟩ = some (.string z) := k2.cell (HL.out k z hz) (fun e => hb (Option.some.inj e))
  have K := Lib.hid (And.intro k1 k2)
  have Z := Lib.hid (HZ.out z (List.mem_of_getElem? hz))
  clear k1 k2 hk hz hb
  go_wp2_with fail
  go_ret
  exact ⟨z, Z.out, rfl, K.out.1, K.out.2⟩

/-- The same, where the list was just made. -/
theorem pickNew {w : World} {g n c : Nat} {A : Option Addr} {bs : List UInt8} (h : Ready w g A n c bs) (zs : List ByteArray) (h1 : 1 ≤ zs.length) (h2 : zs.length ≤ 1000) (hs : ∀ z ∈ zs, z.size ≤ 20) :
    Calls Tryd.prog 27 #[.pointer (some ⟨g, 0, none⟩), .slice (some ⟨w.heap.size, 0, none⟩) zs.length zs.length] (w.alloc (.cells (strs zs).toArray 9)) fun e w' =>
      ∃ x : ByteArray, x.size ≤ 20 ∧ e = .returned (.string x) ∧ Ready w' g A n c bs ∧ w.grownBy w' (some g) := by
  have hlt := h.cur.lt
  refine (pickS (h.alloc (.cells (strs zs).toArray 9)) w.heap.size 0 zs.length zs (by omega) h1 h2 hs (cells_str w zs 9)).mono fun e w' ⟨x, hx, he, k1, k2⟩ => ?_
  exact ⟨x, hx, he, (h.alloc _).next k2 k1, grown_trans (World.grownBy_alloc w _ _) k2⟩

def DrawnN (w : World) (e : Ending) (w' : World) : Prop := ∃ x : Int, e = .returned (.int .i64 x) ∧ (Lit.int .i64 x).wf = true ∧ Below w.heap.size w w'
def DrawnS (w : World) (e : Ending) (w' : World) : Prop := ∃ x : ByteArray, e = .returned (.string x) ∧ x.size ≤ 1000 ∧ Below w.heap.size w w'
def DrawnSS (w : World) (e : Ending) (w' : World) : Prop := ∃ x y : ByteArray, e = .returned (.tuple #[.string x, .string y]) ∧ x.size ≤ 1000 ∧ y.size ≤ 1000 ∧ Below w.heap.size w w'

set_option maxHeartbeats 1000000 in
theorem drawF (w : World) (A : Option Addr) (n c : Nat) (bs : List UInt8) (hn : bs.length = n) (hb : n ≤ 4096) (hr : Rd w w.heap.size A (u8s bs)) :
    Calls Tryd.prog 8 #[.slice A n c] w (DrawnN w) := by
  have N0 := Lib.hid (new w A n c bs hn hb hr)
  clear hn hb hr
  go_enter Tryd.func8, Tryd.ntmps8
  go_wp2_with fail
  refine N0.out.mono ?_
  rintro e w1 ⟨g, rfl, hg, r1, b1⟩
  have R1 := Lib.hid r1
  have B1 := Lib.hid b1
  have G := Lib.hid hg
  clear r1 b1 N0 hg
  go_wp2_with fail
  refine (once R1.out 2 (by decide) (by decide)).mono ?_
  rintro e w2 ⟨x, rfl, k1, k2⟩
  have R2 := Lib.hid (R1.out.next k2 k1)
  have B2 := Lib.hid (B1.out.grown k2 B1.out.size (fun k hk => by cases hk; exact G.out))
  clear k1 k2 R1 B1
  cases x
  · go_wp2_with fail
    refine (below R2.out 1200 (by decide) (by decide)).mono ?_
    rintro e w3 ⟨x1, ⟨x11, x12⟩, rfl, k1, k2⟩
    have B3 := Lib.hid (B2.out.grown k2 B2.out.size (fun k hk => by cases hk; exact G.out))
    clear k1 k2 R2 B2
    go_wp2_with fail
    go_ret
    exact ⟨x1, rfl, wf_of_small (by omega) (by omega), B3.out⟩
  · go_wp2_with fail
    refine (odd R2.out).mono ?_
    rintro e w3 ⟨x1, X1, rfl, k1, k2⟩
    have X1 := Lib.hid X1
    have B3 := Lib.hid (B2.out.grown k2 B2.out.size (fun k hk => by cases hk; exact G.out))
    clear k1 k2 R2 B2
    go_wp2_with fail
    go_ret
    exact ⟨x1, rfl, X1.out, B3.out⟩

def L1 : List ByteArray := [⟨#[48]⟩, ⟨#[97]⟩, ⟨#[47]⟩, ⟨#[58]⟩, ⟨#[32]⟩]
def L2 : List ByteArray := [⟨#[]⟩, ⟨#[45, 49]⟩, ⟨#[45]⟩, ⟨#[43, 49]⟩, ⟨#[49, 48, 48, 48]⟩, ⟨#[57, 57, 57]⟩, ⟨#[48, 48]⟩, ⟨#[49, 56, 52, 52, 54, 55, 52, 52, 48, 55, 51, 55, 48, 57, 53, 53, 49, 54, 49, 54]⟩, ⟨#[47, 57]⟩, ⟨#[48, 58]⟩]
theorem itoa_size (k : Nat) (h : k ≤ 9223372036854775807) : (itoaT (k : Int)).size ≤ 19 := by
  rw [Parse.itoaT_nat, Lib.size_eq]
  exact digits_len 18 k (Nat.lt_of_le_of_lt h (by decide))

set_option maxRecDepth 100000 in
set_option maxHeartbeats 1000000 in
theorem drawP (w : World) (A : Option Addr) (n c : Nat) (bs : List UInt8) (hn : bs.length = n) (hb : n ≤ 4096) (hr : Rd w w.heap.size A (u8s bs)) :
    Calls Tryd.prog 11 #[.slice A n c] w (DrawnS w) := by
  have N0 := Lib.hid (new w A n c bs hn hb hr)
  clear hn hb hr
  go_enter Tryd.func11, Tryd.ntmps11
  go_wp2_with fail
  refine N0.out.mono ?_
  rintro e w1 ⟨g, rfl, hg, r1, b1⟩
  have R1 := Lib.hid r1
  have B1 := Lib.hid b1
  have G := Lib.hid hg
  clear r1 b1 N0 hg
  go_wp2_with fail
  refine (below R1.out 1100 (by decide) (by decide)).mono ?_
  rintro e w2 ⟨x, ⟨x1, x2⟩, rfl, k1, k2⟩
  have R2 := Lib.hid (R1.out.next k2 k1)
  have B2 := Lib.hid (B1.out.grown k2 B1.out.size (fun k hk => by cases hk; exact G.out))
  obtain ⟨k, rfl⟩ : ∃ k : Nat, x = k := ⟨x.toNat, by omega⟩
  have hz := itoa_size k (by omega)
  have F := Lib.hid (Fmt.spec (k : Int) w2 (by omega) (by omega))
  generalize itoaT (k : Int) = s at hz F
  clear k1 k2 R1 B1
  go_wp2_with fail
  refine F.out.mono ?_
  rintro e w3 ⟨rfl, b3⟩
  have R3 := Lib.hid (ready_below R2.out b3)
  have B3 := Lib.hid (B2.out.trans (b3.mono B2.out.size))
  clear b3 R2 B2 F x1 x2
  go_wp2_with fail
  refine (below R3.out 6 (by decide) (by decide)).mono ?_
  rintro e w4 ⟨x, ⟨x1, x2⟩, rfl, k1, k2⟩
  have R4 := Lib.hid (R3.out.next k2 k1)
  have B4 := Lib.hid (B3.out.grown k2 B3.out.size (fun k hk => by cases hk; exact G.out))
  clear k1 k2 R3 B3
  have P1 := Lib.hid (pickNew R4.out L1 (by decide) (by decide) (by decide))
  have P2 := Lib.hid (pickNew R4.out L2 (by decide) (by decide) (by decide))
  rcases (show x = 0 ∨ x = 1 ∨ x = 2 ∨ 3 ≤ x by omega) with rfl | rfl | rfl | h3
  · go_wp2_with fail
    go_ret
    exact ⟨_, rfl, by rw [ByteArray.size_append]; have e : (⟨#[48]⟩ : ByteArray).size = 1 := rfl; omega, B4.out⟩
  · go_wp2_with fail
    refine P1.out.mono ?_
    rintro e w5 ⟨z, z1, rfl, _, k2⟩
    have B5 := Lib.hid (B4.out.grown k2 B4.out.size (fun k hk => by cases hk; exact G.out))
    clear k2
    go_wp2_with fail
    go_ret
    exact ⟨_, rfl, by rw [ByteArray.size_append]; omega, B5.out⟩
  · go_wp2_with fail
    refine P2.out.mono ?_
    rintro e w5 ⟨z, z1, rfl, _, k2⟩
    have B5 := Lib.hid (B4.out.grown k2 B4.out.size (fun k hk => by cases hk; exact G.out))
    clear k2
    go_wp2_with fail
    go_ret
    exact ⟨_, rfl, by omega, B5.out⟩
  · go_wp2_with fail
    go_ret
    exact ⟨_, rfl, by omega, B4.out⟩

def L3 : List ByteArray := [⟨#[59, 32]⟩, ⟨#[43]⟩, ⟨#[32]⟩, ⟨#[97, 97]⟩, ⟨#[]⟩, ⟨#[97]⟩]
def L4 : List ByteArray := [⟨#[97]⟩, ⟨#[98]⟩, ⟨#[]⟩, ⟨#[97, 98]⟩, ⟨#[43]⟩, ⟨#[59, 32]⟩]
def L5 : List ByteArray := [⟨#[]⟩, ⟨#[97]⟩, ⟨#[59]⟩]

set_option maxRecDepth 100000 in
set_option maxHeartbeats 1000000 in
theorem drawC (w : World) (A : Option Addr) (n c : Nat) (bs : List UInt8) (hn : bs.length = n) (hb : n ≤ 4096) (hr : Rd w w.heap.size A (u8s bs)) :
    Calls Tryd.prog 12 #[.slice A n c] w (DrawnSS w) := by
  have N0 := Lib.hid (new w A n c bs hn hb hr)
  clear hn hb hr
  go_enter Tryd.func12, Tryd.ntmps12
  go_wp2_with fail
  refine N0.out.mono ?_
  rintro e w1 ⟨g, rfl, hg, r1, b1⟩
  have R1 := Lib.hid r1
  have B1 := Lib.hid b1
  have G := Lib.hid hg
  have P1 := Lib.hid (pickNew R1.out L3 (by decide) (by decide) (by decide))
  clear r1 b1 N0 hg
  go_wp2_with fail
  refine P1.out.mono ?_
  rintro e w2 ⟨sep, z1, rfl, k1, k2⟩
  have R2 := Lib.hid k1
  have B2 := Lib.hid (B1.out.grown k2 B1.out.size (fun k hk => by cases hk; exact G.out))
  clear k1 k2 R1 B1 P1
  go_wp2_with fail
  refine (below R2.out 6 (by decide) (by decide)).mono ?_
  rintro e w3 ⟨x, ⟨x1, x2⟩, rfl, k1, k2⟩
  have R3 := Lib.hid (R2.out.next k2 k1)
  have B3 := Lib.hid (B2.out.grown k2 B2.out.size (fun k hk => by cases hk; exact G.out))
  clear k1 k2 R2 B2
  go_wp2_with fail
  go_loopw [6, 7] (fun v q wr => ∃ (k : Nat) (t : ByteArray), q = .int .i64 k ∧ v = .string t ∧ t.size + 40 * k ≤ 240 ∧ Hid (Ready wr g A n c bs) ∧ Hid (Below w.heap.size w wr)) (fun _ q _ => (intOf q).toNat)
  case atStart => exact ⟨x.toNat, _, by congr 1; omega, rfl, by have e : (⟨#[]⟩ : ByteArray).size = 0 := rfl; omega, R3, B3⟩
  case round =>
    obtain ⟨k, t, rfl, rfl, hk, RK, BK⟩ := hrel
    by_cases h0 : 0 < k
    · have P4 := Lib.hid (pickNew RK.out L4 (by decide) (by decide) (by decide))
      go_wp2_with fail
      refine P4.out.mono ?_
      rintro e w4 ⟨z, z2, rfl, k1, k2⟩
      have R4 := Lib.hid k1
      have B4 := Lib.hid (BK.out.grown k2 BK.out.size (fun k hk => by cases hk; exact G.out))
      have hs1 : (t ++ z).size ≤ 260 := by rw [ByteArray.size_append]; omega
      have hs2 : (t ++ z ++ sep).size + 40 * (k - 1) ≤ 240 := by rw [ByteArray.size_append, ByteArray.size_append]; omega
      clear k1 k2 RK BK P4
      go_wp2_with fail
      go_roundw
      case rel => exact ⟨k - 1, _, by congr 1; omega, rfl, hs2, R4, B4⟩
      case measure => simp [intOf]; omega
    · obtain rfl : k = 0 := by omega
      have P5 := Lib.hid (pickNew RK.out L5 (by decide) (by decide) (by decide))
      go_wp2_with fail
      refine P5.out.mono ?_
      rintro e w4 ⟨z, z2, rfl, k1, k2⟩
      have B4 := Lib.hid (BK.out.grown k2 BK.out.size (fun k hk => by cases hk; exact G.out))
      have hs1 : (t ++ z).size ≤ 260 := by rw [ByteArray.size_append]; omega
      clear k1 k2 RK BK P5
      go_wp2_with fail
      refine bodyPost_ret (v := .tuple #[.string (t ++ z), .string sep]) (by simp [results, Tryd.results12, go_sem]) rfl ⟨t ++ z, sep, rfl, by omega, by omega, B4.out⟩

end Go.Proofs.YtjpmhponcbbdcaaDoor.NumDraw
