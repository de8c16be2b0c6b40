/- A track as floats: how integers are made floats, and told again. -/
import Derived.Test.YtmbiomekbinplaaTi8
import Derived.Test.YtmbiomekbinplaaInts
import Derived.Test.YtmbiomekbinplaaRw
import Derived.Test.YtmbiomekbinplaaMeas
import Derived.Laws.AppendOwn
namespace Go.Proofs.Ytmbiomekbinplaa.Fw8
open Go.RowKit Go.Proofs.Ytmbiomekbinplaa.Mem Go.Proofs.Ytmbiomekbinplaa.Tk Go.Proofs.Ytmbiomekbinplaa.Ti8 Go.Proofs.Ytmbiomekbinplaa.Rw Go.Proofs.Ytmbiomekbinplaa.Meas
set_option linter.unusedVariables false
set_option linter.unusedSimpArgs false

/-- The cells of floats. -/
def fls (zs : List Int) : List Value := zs.map fun z => .float .f32 (f32 z)
theorem fls_len (zs : List Int) : (fls zs).length = zs.length := List.length_map ..
theorem fls_get {zs : List Int} {k : Nat} {z : Int} (h : zs[k]? = some z) : (fls zs)[k]? = some (.float .f32 (f32 z)) := by unfold fls; rw [List.getElem?_map, h]; rfl
theorem ints_at {zs : List Int} {k : Nat} {z : Int} (h : zs[k]? = some z) : (ints zs)[k]? = some (.int .i64 z) := by unfold ints; rw [List.getElem?_map, h]; rfl
theorem infoF : (Try.prog.info? 58).map (fun i => (i.zero, i.size, i.bytes)) = some (some (.float .f32 0), 1, 4) := by kernel_rfl
theorem infoI : (Try.prog.info? 3).map (fun i => (i.zero, i.size, i.bytes)) = some (some (.int .i64 0), 1, 8) := by kernel_rfl
theorem made_one (z : Value) (hz : z.cells = #[z]) (n : Nat) : (madeCells z.cells (n * 1)).toList = List.replicate n z := by
  apply List.ext_getElem?
  intro j
  rw [Nat.mul_one, Array.getElem?_toList, List.getElem?_replicate, hz]
  simp only [madeCells]
  by_cases h : j < n <;> simp [h, Nat.mod_one]
theorem rd_f {w : World} {B : Nat} {A : Option Addr} {zs : List Int} {z : Int} {k : Nat} (h : Rd w B A (fls zs)) (hz : zs[k]? = some z) : ∃ b o, A = some ⟨b, o, none⟩ ∧ b < B ∧ w.cell? ⟨b, o + k, none⟩ = some (.float .f32 (f32 z)) := by
  obtain ⟨b, o, e, hb, g⟩ := h.get (k := k) (by rw [fls_len]; exact (List.getElem?_eq_some_iff.1 hz).1)
  exact ⟨b, o, e, hb, g k _ (fls_get hz)⟩
theorem rd_i {w : World} {B : Nat} {A : Option Addr} {zs : List Int} {z : Int} {k : Nat} (h : Rd w B A (ints zs)) (hz : zs[k]? = some z) : ∃ b o, A = some ⟨b, o, none⟩ ∧ b < B ∧ w.cell? ⟨b, o + k, none⟩ = some (.int .i64 z) := by
  obtain ⟨b, o, e, hb, g⟩ := h.get (k := k) (by rw [ints_len]; exact (List.getElem?_eq_some_iff.1 hz).1)
  exact ⟨b, o, e, hb, g k _ (ints_at hz)⟩
@[go_sem] theorem run_store_float (P : Program) (w : World) (a : Addr) (m : Mode) (k : FloatKind) (b : Nat) : (store a (.float k b) m).run P w = stored P w a (.float k b) m := run_store P w a _ m rfl
theorem own_mk {w : World} {base n size : Nat} {e : TypeId} {v : Value} {xs : List Value} (h : w.ownsRow base e size v (n + 1) xs) : ∃ g c, v = .slice (some ⟨g, 0, none⟩) (n + 1) c := by
  rcases h.2 with ⟨_, e⟩ | ⟨g, cap, cur, e, _⟩
  · omega
  · exact ⟨g, cap, e⟩
theorem own_base {w : World} {base n size : Nat} {e : TypeId} {v : Value} {xs : List Value} (h : w.ownsRow base e size v n xs) : ∀ k, v.ownBlock = some k → base ≤ k := fun k e => (h.lt k e).1
theorem own_at {w : World} {base : Nat} {e : TypeId} {size g n c : Nat} {xs : List Value} (h : w.ownsRow base e size (.slice (some ⟨g, 0, none⟩) n c) n xs) : base ≤ g := (h.lt g rfl).1

/-- A list of the call's own that holds these numbers. -/
def RowI (w : World) (zs : List Int) (e : Ending) (w' : World) : Prop :=
  ∃ g c, e = .returned (.slice (some ⟨g, 0, none⟩) zs.length c) ∧ w'.ownsRow w.heap.size 3 1 (.slice (some ⟨g, 0, none⟩) zs.length c) zs.length (ints zs) ∧ Below w.heap.size w w'
/-- .. and whether there is one. -/
def RowP (w : World) (zs : List Int) (r : Bool) (e : Ending) (w' : World) : Prop :=
  ∃ g c, e = .returned (.tuple #[.slice (some ⟨g, 0, none⟩) zs.length c, .bool r]) ∧ w'.ownsRow w.heap.size 3 1 (.slice (some ⟨g, 0, none⟩) zs.length c) zs.length (ints zs) ∧ Below w.heap.size w w'
/-- The empty list. -/
theorem row_nil (w : World) : RowI w [] (.returned (.slice (some ⟨w.heap.size, 0, none⟩) 0 0)) (w.alloc (.cells #[] 3)) :=
  ⟨_, _, rfl, World.ownsRow_lit (base := w.heap.size) (e := 3) (size := 1) w #[] 0 (Nat.le_refl _) (Nat.zero_le _) rfl, (Below.refl _ _).alloc (Nat.le_refl _) _⟩
theorem rowP_nil (w : World) : RowP w [] false (.returned (.tuple #[.slice (some ⟨w.heap.size, 0, none⟩) 0 0, .bool false])) (w.alloc (.cells #[] 3)) :=
  ⟨_, _, rfl, World.ownsRow_lit (base := w.heap.size) (e := 3) (size := 1) w #[] 0 (Nat.le_refl _) (Nat.zero_le _) rfl, (Below.refl _ _).alloc (Nat.le_refl _) _⟩
theorem RowI.from {w w1 : World} {zs : List Int} {e : Ending} {w' : World} (h : RowI w1 zs e w') (hb : Below w.heap.size w w1) : RowI w zs e w' := by
  obtain ⟨g, c, e1, ho, hb2⟩ := h
  exact ⟨g, c, e1, owns_base ho (Nat.le_trans hb.size (own_at ho)), hb.trans (hb2.mono hb.size)⟩

theorem whole_no (A : Option Addr) (n c : Nat) (zs : List Int) (B : Nat) (w : World) (hn : zs.length = n) (hb : n ≤ 1048576) (hr : Rd w B A (ints zs)) (ht : tk zs = false) :
    Calls Try.prog 32 #[.slice A n c] w fun e w' => e = .returned (.tuple #[.slice none 0 0, .bool false]) ∧ w = w' := by
  have C := Lib.hid (trkI_of ht A n c B w hn hb hr)
  clear hn hr ht
  go_enter Try.func32, Try.ntmps32
  go_wp2_with fail
  refine C.out.mono ?_
  rintro e w' ⟨rfl, rfl⟩
  go_wp2_with fail
  go_ret2
  exact ⟨rfl, rfl⟩

/-- The floats of a track: a list of the call's own. -/
def Whl (w : World) (zs : List Int) (e : Ending) (w' : World) : Prop :=
  ∃ g, e = .returned (.tuple #[.slice (some ⟨g, 0, none⟩) zs.length zs.length, .bool true]) ∧ w'.ownsRow w.heap.size 58 1 (.slice (some ⟨g, 0, none⟩) zs.length zs.length) zs.length (fls zs) ∧ Below w.heap.size w w'

set_option maxHeartbeats 1000000 in
theorem whole_yes (A : Option Addr) (n c : Nat) (zs : List Int) (w : World) (hn : zs.length = n) (hb : n ≤ 1048576) (hr : Rd w w.heap.size A (ints zs)) (ht : tk zs = true) :
    Calls Try.prog 32 #[.slice A n c] w (Whl w zs) := by
  have C := Lib.hid (trkI_of ht A n c w.heap.size w hn hb hr)
  obtain ⟨i0, hi, hz0, hz1, hz2⟩ := info_of infoF
  have R := Lib.hid hr
  have N := Lib.hid hn
  have D := Lib.hid (tk_iff.1 ht).2
  clear hr hn ht
  go_enter Try.func32, Try.ntmps32
  go_wp2_with fail
  refine C.out.mono ?_
  rintro e w' ⟨rfl, rfl⟩
  go_wp2_with (at_make; refine wpList_make_full _ rfl _ _ 51 rfl w.heap.size 58 i0 (.float .f32 0) 1 Try.underlying51 hi hz0 hz1 .i64 .i64 n n n rfl rfl rfl rfl (by rw [hz2]; omega) (by unfold maxLen; omega) (Nat.le_refl _) ?_; intro w1 hown hgrow; clear hi hz0 hz1 hz2)
  have R0 := Lib.hid (show w1.ownsRow w.heap.size 58 1 (.slice (some ⟨w.heap.size, 0, none⟩) n n) n (filled (fls zs) (.float .f32 0) 0) by
    rw [filled_zero, fls_len, N.out]; rw [made_one _ rfl] at hown; exact hown)
  have B0 := Lib.hid (show Below w.heap.size w w1 from (Below.refl _ _).grown hgrow (Nat.le_refl _) (fun k hk => by cases hk))
  clear hown hgrow C
  go_loopw [15] (fun i wr => ∃ k : Nat, k ≤ n ∧ i = .int .i64 k ∧ Hid (wr.ownsRow w.heap.size 58 1 (.slice (some ⟨w.heap.size, 0, none⟩) n n) n (filled (fls zs) (.float .f32 0) k)) ∧ Hid (Below w.heap.size w wr)) (fun i _ => n - (intOf i).toNat)
  case atStart => exact ⟨0, Nat.zero_le _, rfl, R0, B0⟩
  case round =>
    obtain ⟨k, hk, rfl, RK, BK⟩ := hrel
    by_cases hlt : k < n
    · obtain ⟨z, hz⟩ : ∃ z, zs[k]? = some z := ⟨_, List.getElem?_eq_getElem (by rw [N.out]; exact hlt)⟩
      obtain ⟨b1, o1, eA, hb1, c0⟩ := rd_i R.out hz
      have c1 : wr.cell? ⟨b1, o1 + k, none⟩ = some (.int .i64 z) := (BK.out.cell (p := ⟨b1, o1 + k, none⟩) hb1).trans c0
      have hz3 := okT_get D.out hz
      have CW := Lib.hid (fun v => wholesOf z (by omega) v)
      have hy := fls_get hz
      have c2 := (RK.out.cellAt k (by omega)).trans (filled_get (z := .float .f32 0) (List.getElem?_eq_some_iff.1 hy).1)
      have f2 := RK.out.frozenAt k
      obtain ⟨r1, r2⟩ := RK.out.stored k (.float .f32 (f32 z))
      rw [filled_put hy] at r1
      have R1 := Lib.hid r1
      have B1 := Lib.hid (BK.out.grown r2 (by exact BK.out.size) (fun g hg => by cases hg; exact Nat.le_refl _))
      clear r1 r2 hy RK BK c0 hb1 hz R0 B0 hz3
      subst eA
      go_wp2_with fail
      refine (CW.out _).mono ?_
      rintro e w' ⟨rfl, rfl⟩
      go_wp2_with fail
      go_roundw
      case rel => exact ⟨k + 1, by omega, by go_num, R1, B1⟩
      case measure => simp [intOf]; omega
    · obtain rfl : k = n := by omega
      have hl : (fls zs).length = k := by rw [fls_len, N.out]
      have OF := Lib.hid (show wr.ownsRow w.heap.size 58 1 (.slice (some ⟨w.heap.size, 0, none⟩) k k) k (fls zs) by
        have := RK.out
        rw [show k = (fls zs).length from hl.symm, filled_all, hl] at this; exact this)
      clear hl RK R0 B0
      go_wp2_with fail
      go_ret2
      refine ⟨w.heap.size, ?_, ?_, BK.out⟩
      · rw [N.out]; rfl
      · rw [N.out]; exact OF.out

set_option maxHeartbeats 1000000 in
theorem toldTrack (A : Option Addr) (n c : Nat) (zs : List Int) (w : World) (hn : zs.length = n) (hb : n ≤ 1048576) (hr : Rd w w.heap.size A (fls zs)) (hv : ∀ z ∈ zs, -4096 ≤ z ∧ z ≤ 4096) :
    Calls Try.prog 44 #[.slice A n c] w (RowI w zs) := by
  obtain ⟨i0, hi, hz0, hz1, hz2⟩ := info_of infoI
  have R := Lib.hid hr
  have N := Lib.hid hn
  have D := Lib.hid hv
  clear hr hn hv
  go_enter Try.func44, Try.ntmps44
  go_wp2_with (at_make; refine wpList_make_full _ rfl _ _ 24 rfl w.heap.size 3 i0 (.int .i64 0) 1 Try.underlying24 hi hz0 hz1 .i64 .i64 n n n rfl rfl rfl rfl (by rw [hz2]; omega) (by unfold maxLen; omega) (Nat.le_refl _) ?_; intro w1 hown hgrow; clear hi hz0 hz1 hz2)
  have R0 := Lib.hid (show w1.ownsRow w.heap.size 3 1 (.slice (some ⟨w.heap.size, 0, none⟩) n n) n (filled (ints zs) (.int .i64 0) 0) by
    rw [filled_zero, ints_len, N.out]; rw [made_one _ rfl] at hown; exact hown)
  have B0 := Lib.hid (show Below w.heap.size w w1 from (Below.refl _ _).grown hgrow (Nat.le_refl _) (fun k hk => by cases hk))
  clear hown hgrow
  go_loopw [11] (fun i wr => ∃ k : Nat, k ≤ n ∧ i = .int .i64 k ∧ Hid (wr.ownsRow w.heap.size 3 1 (.slice (some ⟨w.heap.size, 0, none⟩) n n) n (filled (ints zs) (.int .i64 0) k)) ∧ Hid (Below w.heap.size w wr)) (fun i _ => n - (intOf i).toNat)
  case atStart => exact ⟨0, Nat.zero_le _, rfl, R0, B0⟩
  case round =>
    obtain ⟨k, hk, rfl, RK, BK⟩ := hrel
    by_cases hlt : k < n
    · obtain ⟨z, hz⟩ : ∃ z, zs[k]? = some z := ⟨_, List.getElem?_eq_getElem (by rw [N.out]; exact hlt)⟩
      obtain ⟨b1, o1, eA, hb1, c0⟩ := rd_f R.out hz
      have c1 : wr.cell? ⟨b1, o1 + k, none⟩ = some (.float .f32 (f32 z)) := (BK.out.cell (p := ⟨b1, o1 + k, none⟩) hb1).trans c0
      have hz3 := D.out z (List.mem_of_getElem? hz)
      have CT := Lib.hid (fun v => told z hz3.1 hz3.2 v)
      have hy := ints_at hz
      have c2 := (RK.out.cellAt k (by omega)).trans (filled_get (z := .int .i64 0) (List.getElem?_eq_some_iff.1 hy).1)
      have f2 := RK.out.frozenAt k
      obtain ⟨r1, r2⟩ := RK.out.stored k (.int .i64 z)
      rw [filled_put hy] at r1
      have R1 := Lib.hid r1
      have B1 := Lib.hid (BK.out.grown r2 (by exact BK.out.size) (fun g hg => by cases hg; exact Nat.le_refl _))
      clear r1 r2 hy RK BK c0 hb1 hz R0 B0 hz3
      subst eA
      go_wp2_with fail
      refine (CT.out _).mono ?_
      rintro e w' ⟨rfl, rfl⟩
      go_wp2_with fail
      go_roundw
      case rel => exact ⟨k + 1, by omega, by go_num, R1, B1⟩
      case measure => simp [intOf]; omega
    · obtain rfl : k = n := by omega
      have hl : (ints zs).length = k := by rw [ints_len, N.out]
      have OF := Lib.hid (show wr.ownsRow w.heap.size 3 1 (.slice (some ⟨w.heap.size, 0, none⟩) k k) k (ints zs) by
        have := RK.out
        rw [show k = (ints zs).length from hl.symm, filled_all, hl] at this; exact this)
      clear hl RK R0 B0
      go_wp2_with fail
      go_ret
      refine ⟨w.heap.size, k, ?_, ?_, BK.out⟩
      · rw [N.out]; rfl
      · rw [N.out]; exact OF.out
theorem okM {zs : List Int} (h : okT zs) : ∀ z ∈ zs, -4096 ≤ z ∧ z ≤ 4096 := fun z hz => by have := h z hz; omega
end Go.Proofs.Ytmbiomekbinplaa.Fw8
