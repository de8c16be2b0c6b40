/- What the program answers for the least box of a list of places. -/
import Derived.Test.YtejeikfgmiadhaaBoq
set_option linter.unusedVariables false
set_option linter.unusedSimpArgs false
namespace Go.Proofs.Ytejeikfgmiadhaa.Bi
open Go.RowKit Go.Proofs.Ytejeikfgmiadhaa.Mem Go.Proofs.Ytejeikfgmiadhaa.Cx Go.Proofs.Ytejeikfgmiadhaa.Cm Go.Proofs.Ytejeikfgmiadhaa.Pl Go.Proofs.Ytejeikfgmiadhaa.Str Go.Proofs.Ytejeikfgmiadhaa.Pw Go.Proofs.Ytejeikfgmiadhaa.P2 Go.Proofs.Ytejeikfgmiadhaa.Bx Go.Proofs.Ytejeikfgmiadhaa.Tb Go.Proofs.Ytejeikfgmiadhaa.Pls Go.Proofs.Ytejeikfgmiadhaa.Bo
set_option linter.unusedVariables false

/-- The places as words. -/
def cx (zs : List (Int × Int)) : List Value := zs.map fun p => .complex .f32 (Meas.f32 p.1) (Meas.f32 p.2)
theorem cx_len (zs : List (Int × Int)) : (cx zs).length = zs.length := List.length_map ..
theorem cx_get {zs : List (Int × Int)} {k : Nat} {p : Int × Int} (h : zs[k]? = some p) : (cx zs)[k]? = some (.complex .f32 (Meas.f32 p.1) (Meas.f32 p.2)) := by
  unfold cx; rw [List.getElem?_map, h]; rfl

theorem infoC : (Try.prog.info? 50).map (fun i => (i.zero, i.size, i.bytes)) = some (some (.complex .f32 0 0), 1, 8) := by kernel_rfl
theorem made_cx (n : Nat) : (madeCells (Value.complex .f32 0 0).cells (n * 1)).toList = List.replicate n (.complex .f32 0 0) := by
  apply List.ext_getElem?
  intro j
  rw [Nat.mul_one, Array.getElem?_toList, List.getElem?_replicate]
  simp only [madeCells, Value.cells]
  by_cases h : j < n <;> simp [h, Nat.mod_one]

@[go_sem] theorem run_store_complex (P : Program) (w : World) (a : Addr) (m : Mode) (k : FloatKind) (b c : Nat) : (store a (.complex k b c) m).run P w = stored P w a (.complex k b c) m := run_store P w a _ m rfl

/-- What the words of a list of places are: none, where one of them is no place. -/
def Told (w : World) (n : Nat) (zs : List (Int × Int)) (e : Ending) (w' : World) : Prop :=
  Below w.heap.size w w' ∧ ((good zs = false ∧ e = .returned (.tuple #[.slice none 0 0, .bool false])) ∨
    (good zs = true ∧ ∃ g, e = .returned (.tuple #[.slice (some ⟨g, 0, none⟩) n n, .bool true]) ∧ w'.ownsRow w.heap.size 50 1 (.slice (some ⟨g, 0, none⟩) n n) n (cx zs)))

theorem ms_le {x y : Int} (h : (ms x && ms y) = true) : V x ∧ V y := pl_yes h
theorem V.min {a b : Int} (h : V a) (k : V b) : V (min a b) := by unfold V at *; omega
theorem V.max {a b : Int} (h : V a) (k : V b) : V (max a b) := by unfold V at *; omega

/-- The box so far, where the first place is p. -/
def sofar (zs : List (Int × Int)) (p : Int × Int) (k : Nat) : Q4 := if k = 0 then one p else boxA (zs.take k)
theorem sofar_next {zs : List (Int × Int)} {p z : Int × Int} {k : Nat} (h0 : zs[0]? = some p) (h : zs[k]? = some z) : sofar zs p (k + 1) = Bo.step (sofar zs p k) z := by
  have := boxA_take h
  unfold sofar
  rw [if_neg (by omega), this]
  by_cases e : k = 0
  · subst e
    rw [h0] at h
    injection h with h
    subst h
    rfl
  · rw [if_neg e, if_neg e]

set_option maxHeartbeats 4000000 in
theorem leastBox (A : Option Addr) (n c : Nat) (zs : List (Int × Int)) (H : Nat) (w : World) (hn : zs.length = n) (h0 : 0 < n) (hb : n ≤ 1048576) (hg : good zs = true) (hH : H ≤ w.heap.size) (hr : Rd w H A (cx zs)) :
    Calls Try.prog 19 #[.slice A n c] w fun e w' => e = .returned (bq (boxA zs)) ∧ Below w.heap.size w w' := by
  have HR := Lib.hid (hr.more hH)
  have HN := Lib.hid hn
  have HG := Lib.hid (show ∀ (k : Nat) x y, zs[k]? = some (x, y) → V x ∧ V y from fun k x y h => ms_le (List.all_eq_true.1 hg _ (List.mem_of_getElem? h)))
  have hl0 : 0 < (cx zs).length := by rw [cx_len]; omega
  obtain ⟨p, hp⟩ : ∃ p, zs[0]? = some p := ⟨_, List.getElem?_eq_getElem (by omega)⟩
  obtain ⟨x0, y0⟩ := p
  obtain ⟨b, o, eA, hbl, hcell⟩ := HR.out.get hl0
  have c0 : w.cell? ⟨b, o, none⟩ = some (.complex .f32 (Meas.f32 x0) (Meas.f32 y0)) := hcell 0 _ (cx_get hp)
  have HP := Lib.hid hp
  have hn0 : (0 : Int) < (n : Int) := by omega
  have lg2 : ∀ j, b < w.heap.size + j := fun j => by omega
  have hcell := Lib.hid hcell
  subst eA
  clear hr hn hg hl0 hp
  go_enter Try.func19, Try.ntmps19
  go_wp2_with fail
  go_region_held3 (fun w' => w'.cell? ⟨b, o, none⟩ = some (.complex .f32 (Meas.f32 x0) (Meas.f32 y0))) (simp [go_sem, *]) (fail)
  go_wp2_with fail
  go_loop [3, 4, 19] (fun lo hi i => ∃ k : Nat, k ≤ n ∧ i = .int .i64 k ∧ ∃ r1 r2 r3 r4 : Nat, lo = .complex .f32 r1 r2 ∧ hi = .complex .f32 r3 r4 ∧ ∃ q1 q2 q3 q4 : Int, Hid ((q1, q2, q3, q4) = sofar zs (x0, y0) k) ∧ Hid (I32 q1 r1 ∧ I32 q2 r2 ∧ I32 q3 r3 ∧ I32 q4 r4) ∧ Hid (V q1 ∧ V q2 ∧ V q3 ∧ V q4)) (fun _ _ i => n - (intOf i).toNat)
  case atStart =>
    obtain ⟨hx, hy⟩ := HG.out 0 _ _ HP.out
    exact ⟨0, Nat.zero_le _, rfl, _, _, _, _, rfl, rfl, x0, y0, x0, y0, rfl, Lib.hid ⟨i32_f32 x0, i32_f32 y0, i32_f32 x0, i32_f32 y0⟩, Lib.hid ⟨hx, hy, hx, hy⟩⟩
  case round =>
    obtain ⟨k, hk, rfl, r1, r2, r3, r4, rfl, rfl, q1, q2, q3, q4, QK, IK, VK⟩ := hrel
    obtain ⟨v1, v2, v3, v4⟩ := VK.out
    obtain ⟨i1, i2, i3, i4⟩ := IK.out
    by_cases hlt : k < n
    · have hkz : k < zs.length := by rw [HN.out]; exact hlt
      obtain ⟨z, hz⟩ : ∃ z, zs[k]? = some z := ⟨_, List.getElem?_eq_getElem hkz⟩
      obtain ⟨x, y⟩ := z
      obtain ⟨hx, hy⟩ := HG.out k _ _ hz
      have c1 : w.cell? ⟨b, o + k, none⟩ = some (.complex .f32 (Meas.f32 x) (Meas.f32 y)) := hcell.out k _ (cx_get hz)
      have E := Lib.hid (sofar_next HP.out hz)
      obtain ⟨s1, g1, j1⟩ := fmin (P := Try.prog) (by omega) (by omega) i1 (i32_f32 x)
      obtain ⟨s2, g2, j2⟩ := fmin (P := Try.prog) (by omega) (by omega) i2 (i32_f32 y)
      obtain ⟨s3, g3, j3⟩ := fmax (P := Try.prog) (by omega) (by omega) i3 (i32_f32 x)
      obtain ⟨s4, g4, j4⟩ := fmax (P := Try.prog) (by omega) (by omega) i4 (i32_f32 y)
      have J := Lib.hid (And.intro j1 (And.intro j2 (And.intro j3 j4)))
      have VV := Lib.hid (And.intro (V.min v1 hx) (And.intro (V.min v2 hy) (And.intro (V.max v3 hx) (V.max v4 hy))))
      clear hkz hz hx hy j1 j2 j3 j4 v1 v2 v3 v4 i1 i2 i3 i4 IK VK
      go_wp2_with fail
      go_round
      case rel =>
        refine ⟨k + 1, by omega, by go_num, s1, s2, s3, s4, rfl, rfl, _, _, _, _, ?_, J, VV⟩
        have h7 := E.out
        rw [← QK.out] at h7
        exact Lib.hid h7.symm
      case measure => simp [intOf]; omega
    · obtain rfl : k = n := by omega
      have E := Lib.hid (show (q1, q2, q3, q4) = boxA zs by
        have := QK.out
        unfold sofar at this
        rwa [if_neg (by omega), ← HN.out, List.take_length] at this)
      have D1 := Lib.hid (toldYes v1 v2 i1 i2)
      have D2 := Lib.hid (toldYes v3 v4 i3 i4)
      clear v1 v2 v3 v4 i1 i2 i3 i4 IK VK
      go_wp2_with fail
      refine (D1.out _).mono ?_
      rintro e w' ⟨rfl, rfl⟩
      go_wp2_with fail
      refine (D2.out _).mono ?_
      rintro e w' ⟨rfl, rfl⟩
      go_wp2_with fail
      go_returns
      refine ⟨?_, by go_grown⟩
      rw [← E.out]; rfl

theorem val_nil {zs : List (Int × Int)} (h : zs.length = 0) : Value.tuple #[box4 0 0 0 0, .bool false] = .tuple #[bq (val zs), .bool (okB zs)] := by
  match zs, h with
  | [], _ => rfl

end Go.Proofs.Ytejeikfgmiadhaa.Bi
