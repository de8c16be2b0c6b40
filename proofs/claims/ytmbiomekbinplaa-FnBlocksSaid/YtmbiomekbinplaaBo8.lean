/- The blocks of a track, of the program and of the model. -/
import Derived.Test.YtmbiomekbinplaaFx8
import Derived.Test.YtmbiomekbinplaaBl8
import Derived.Laws.Cover3
namespace Go.Proofs.Ytmbiomekbinplaa.Bo8
open Go.RowKit Go.Proofs.Ytmbiomekbinplaa.Mem Go.Proofs.Ytmbiomekbinplaa.Tk Go.Proofs.Ytmbiomekbinplaa.Ti8 Go.Proofs.Ytmbiomekbinplaa.Rw Go.Proofs.Ytmbiomekbinplaa.Meas Go.Proofs.Ytmbiomekbinplaa.Fw8
set_option linter.unusedVariables false
set_option linter.unusedSimpArgs false

open Go.Proofs.Ytmbiomekbinplaa.Fx8
/-- A list of the call's own that holds these blocks. -/
def RowB (w : World) (zs : List Int) (e : Ending) (w' : World) : Prop :=
  ∃ g c, e = .returned (.slice (some ⟨g, 0, none⟩) (zs.length / 8) c) ∧ w'.ownsRow w.heap.size 56 8 (.slice (some ⟨g, 0, none⟩) (zs.length / 8) c) (zs.length / 8) (ints zs) ∧ Below w.heap.size w w'
theorem row_nilB (w : World) : RowB w [] (.returned (.slice (some ⟨w.heap.size, 0, none⟩) 0 0)) (w.alloc (.cells #[] 56)) :=
  ⟨_, _, rfl, World.ownsRow_lit (base := w.heap.size) (e := 56) (size := 8) w #[] 0 (Nat.le_refl _) (Nat.zero_le _) rfl, (Below.refl _ _).alloc (Nat.le_refl _) _⟩
theorem blV_len (zs : List Int) : (blV zs).length ≤ 64 := by
  cases h : tk zs
  · rw [blV_no h]; exact Nat.zero_le _
  · rw [blV_yes h, pd_len]; have := (tk_iff.1 h).1; omega
theorem fls_snoc (zs : List Int) (z : Int) : fls zs ++ [.float .f32 (f32 z)] = fls (zs ++ [z]) := by unfold fls; rw [List.map_append]; rfl
theorem ints8 {zs : List Int} {k : Nat} {x0 x1 x2 x3 x4 x5 x6 x7 : Int} (h : k * 8 + 8 ≤ zs.length) (h0 : zs[k * 8]? = some x0) (h1 : zs[k * 8 + 1]? = some x1) (h2 : zs[k * 8 + 2]? = some x2) (h3 : zs[k * 8 + 3]? = some x3) (h4 : zs[k * 8 + 4]? = some x4) (h5 : zs[k * 8 + 5]? = some x5) (h6 : zs[k * 8 + 6]? = some x6) (h7 : zs[k * 8 + 7]? = some x7) : ints (zs.take (k * 8)) ++ [.int .i64 x0, .int .i64 x1, .int .i64 x2, .int .i64 x3, .int .i64 x4, .int .i64 x5, .int .i64 x6, .int .i64 x7] = ints (zs.take ((k + 1) * 8)) := by
  apply List.ext_getElem?
  intro j
  have hl : (ints (zs.take (k * 8))).length = k * 8 := by rw [ints_len, List.length_take]; omega
  by_cases hj : j < k * 8
  · rw [List.getElem?_append_left (by omega)]
    unfold ints
    rw [List.getElem?_map, List.getElem?_map, List.getElem?_take_of_lt hj, List.getElem?_take_of_lt (by omega)]
  · rw [List.getElem?_append_right (by omega), hl]
    by_cases h8 : j < k * 8 + 8
    · unfold ints
      rw [List.getElem?_map, List.getElem?_take_of_lt (by omega)]
      obtain ⟨r, rfl⟩ : ∃ r, j = k * 8 + r := ⟨j - k * 8, by omega⟩
      rw [show k * 8 + r - k * 8 = r by omega]
      have hr : r < 8 := by omega
      match r, hr with
      | 0, _ => rw [Nat.add_zero, h0]; rfl
      | 1, _ => rw [h1]; rfl
      | 2, _ => rw [h2]; rfl
      | 3, _ => rw [h3]; rfl
      | 4, _ => rw [h4]; rfl
      | 5, _ => rw [h5]; rfl
      | 6, _ => rw [h6]; rfl
      | 7, _ => rw [h7]; rfl
    · rw [List.getElem?_eq_none (by simp; omega), List.getElem?_eq_none (by rw [ints_len, List.length_take]; omega)]

/-- How long a slice is. -/
def lenOf : Value → Nat
  | .slice _ n _ => n
  | _ => 0
/-- The floats of a track, filled up. -/
def Full (w : World) (zs : List Int) (e : Ending) (w' : World) : Prop :=
  ∃ g c, e = .returned (.slice (some ⟨g, 0, none⟩) (pd zs).length c) ∧ (pd zs).length ≤ c ∧ Rd w' w'.heap.size (some ⟨g, 0, none⟩) (fls (pd zs)) ∧ Below w.heap.size w w'

set_option maxHeartbeats 1000000 in
theorem filledUp (B g n c : Nat) (zs : List Int) (w : World) (hn : zs.length = n) (hb : n ≤ 64) (hp : 0 < n) (hB : B ≤ w.heap.size) (ho : w.ownsRow w.heap.size.pred 58 1 (.slice (some ⟨g, 0, none⟩) n c) n (fls zs) ∨ w.ownsRow B 58 1 (.slice (some ⟨g, 0, none⟩) n c) n (fls zs)) (hob : w.ownsRow B 58 1 (.slice (some ⟨g, 0, none⟩) n c) n (fls zs)) (w0 : World) (hw0 : Below B w0 w) :
    Calls Try.prog 33 #[.slice (some ⟨g, 0, none⟩) n c] w fun e w' => ∃ g c, e = .returned (.slice (some ⟨g, 0, none⟩) (pd zs).length c) ∧ w'.ownsRow B 58 1 (.slice (some ⟨g, 0, none⟩) (pd zs).length c) (pd zs).length (fls (pd zs)) ∧ Below B w0 w' := by
  obtain ⟨i0, hi, hz0, hz1, hz2⟩ := info_of infoF
  have N := Lib.hid hn
  obtain ⟨y, hy⟩ : ∃ y, zs.getD (zs.length - 1) 0 = y := ⟨_, rfl⟩
  have HY := Lib.hid hy
  have O0 := Lib.hid (show w.ownsRow B 58 1 (.slice (some ⟨g, 0, none⟩) (n + 0) c) (n + 0) (fls (zs ++ List.replicate 0 y)) by rw [List.replicate_zero, List.append_nil]; exact hob)
  have B0 := Lib.hid hw0
  have HF := Lib.hid (show fill8 zs = (8 - n % 8) % 8 by unfold fill8; rw [hn])
  clear hn ho hob hw0 hy
  go_enter Try.func33, Try.ntmps33
  go_wp2_with fail
  go_loopw [0] (fun v wr => ∃ k : Nat, k ≤ (8 - n % 8) % 8 ∧ (∃ gb gc, v = .slice (some ⟨gb, 0, none⟩) (n + k) gc) ∧ Hid (wr.ownsRow B 58 1 v (n + k) (fls (zs ++ List.replicate k y))) ∧ Hid (Below B w0 wr)) (fun v _ => 72 - (lenOf v))
  case atStart => exact ⟨0, Nat.zero_le _, ⟨g, c, rfl⟩, O0, B0⟩
  case round =>
    obtain ⟨k, hk, ⟨gb, gc, rfl⟩, OK, BK⟩ := hrel
    clear O0 B0
    obtain ⟨q, hq⟩ : ∃ q, n + k = q := ⟨_, rfl⟩
    have HQ := Lib.hid hq
    have hq0 : 0 < q := by omega
    have hq1 : q ≤ 72 := by omega
    rw [hq] at OK
    rw [hq]
    have m1 : (q : Int).tmod 8 = ((q % 8 : Nat) : Int) := rfl
    by_cases hm : q % 8 = 0
    · have e9 : k = (8 - n % 8) % 8 := by omega
      have OE := Lib.hid (show wr.ownsRow B 58 1 (.slice (some ⟨gb, 0, none⟩) (pd zs).length gc) (pd zs).length (fls (pd zs)) by
        have h1 : pd zs = zs ++ List.replicate k y := by unfold pd; rw [HF.out, HY.out, ← e9]
        have h2 : (pd zs).length = q := by rw [h1, List.length_append, List.length_replicate, N.out]; exact HQ.out
        rw [h2, h1]; exact OK.out)
      have HL := Lib.hid (show (pd zs).length = q by
        rw [show pd zs = zs ++ List.replicate k y by unfold pd; rw [HF.out, HY.out, ← e9], List.length_append, List.length_replicate, N.out]; exact HQ.out)
      have m2 : ((q % 8 : Nat) : Int) = 0 := by omega
      clear hq e9 OK hk
      go_wp2_with fail
      go_ret
      rw [HL.out]
      have := OE.out
      rw [HL.out] at this
      exact ⟨gb, gc, rfl, this, BK.out⟩
    · have hk2 : k < (8 - n % 8) % 8 := by omega
      have hl : (zs ++ List.replicate k y)[q - 1]? = some y := by
        by_cases h0 : k = 0
        · subst h0
          rw [List.replicate_zero, List.append_nil]
          have := HY.out
          rw [List.getD_eq_getElem?_getD] at this
          rw [show q - 1 = zs.length - 1 by rw [N.out]; omega, List.getElem?_eq_getElem (by rw [N.out]; omega)]
          rw [List.getElem?_eq_getElem (by rw [N.out]; omega)] at this
          exact congrArg some this
        · rw [List.getElem?_append_right (by rw [N.out]; omega), List.getElem?_replicate, if_pos (by rw [N.out]; omega)]
      have c1 := (OK.out.cellAt (q - 1) (by omega)).trans (fls_get hl)
      have E := Lib.hid (show fls (zs ++ List.replicate k y) ++ [.float .f32 (f32 y)] = fls (zs ++ List.replicate (k + 1) y) by rw [fls_snoc, List.append_assoc, ← List.replicate_succ'])
      have hown := OK.out.alloc
      have HS := Lib.hid (own_base OK.out)
      have HW := Lib.hid (Nat.le_trans hB (Nat.le_refl w.heap.size))
      have HWr := Lib.hid BK.out.size
      have HBr := Lib.hid (show B ≤ wr.heap.size from Nat.le_trans (own_at OK.out) (Nat.le_of_lt (OK.out.lt gb rfl).2))
      have i1 : (q : Int) - 1 = ((q - 1 : Nat) : Int) := by omega
      have m2 : ((q % 8 : Nat) : Int) ≠ 0 := by omega
      clear hl hq hm
      go_wp2_with (at_builtin; refine wpList_append_own _ rfl _ _ 51 rfl B 58 i0 (.float .f32 0) 1 4 Try.underlying51 hi hz0 hz1 hz2 rfl (by decide) _ _ _ rfl (hown _) ⟨wr.heap.size, 0, none⟩ 1 1 [.float .f32 (f32 y)] rfl rfl (by intro j u hj; match j, hj with | 0, hj => simp at hj; subst hj; simp [Addr.add]) (by intro u hu; simp at hu; subst hu; rfl) (by unfold maxLen; omega) (by omega) (by have := HBr.out; simp; omega) ?_)
      intro v' w5 hown' hgrow hnil
      rw [E.out] at hown'
      obtain ⟨g5, c5, rfl⟩ := own_mk hown'
      have OO := Lib.hid (show w5.ownsRow B 58 1 (.slice (some ⟨g5, 0, none⟩) (n + (k + 1)) c5) (n + (k + 1)) (fls (zs ++ List.replicate (k + 1) y)) by rw [show n + (k + 1) = q + 1 by have := HQ.out; omega]; exact hown')
      have BB := Lib.hid ((BK.out.alloc HBr.out _).grown hgrow (by have := HBr.out; simp; omega) (fun j hj => HS.out j hj))
      have hqk : q + 1 = n + (k + 1) := by have := HQ.out; omega
      have HQK := Lib.hid hqk
      clear hown' hgrow hnil OK BK HS HW HWr HBr hown E hqk
      go_wp2_with fail
      go_roundw
      case rel =>
        refine ⟨k + 1, by omega, ⟨g5, c5, by rw [HQK.out]⟩, ?_, BB⟩
        rw [HQK.out]; exact OO
      case measure => simp [lenOf]; omega

theorem set8 {W : World} {b : Nat} {v0 v1 v2 v3 v4 v5 v6 v7 : Value} (h : ∀ j, j < 8 → (W.cell? ⟨b, j, none⟩).isSome = true) : ((((((((W.setCell ⟨b, 0, none⟩ v0).setCell ⟨b, 1, none⟩ v1).setCell ⟨b, 2, none⟩ v2).setCell ⟨b, 3, none⟩ v3).setCell ⟨b, 4, none⟩ v4).setCell ⟨b, 5, none⟩ v5).setCell ⟨b, 6, none⟩ v6).setCell ⟨b, 7, none⟩ v7).cell? ⟨b, 0, none⟩ = some v0 ∧ ((((((((W.setCell ⟨b, 0, none⟩ v0).setCell ⟨b, 1, none⟩ v1).setCell ⟨b, 2, none⟩ v2).setCell ⟨b, 3, none⟩ v3).setCell ⟨b, 4, none⟩ v4).setCell ⟨b, 5, none⟩ v5).setCell ⟨b, 6, none⟩ v6).setCell ⟨b, 7, none⟩ v7).cell? ⟨b, 1, none⟩ = some v1 ∧ ((((((((W.setCell ⟨b, 0, none⟩ v0).setCell ⟨b, 1, none⟩ v1).setCell ⟨b, 2, none⟩ v2).setCell ⟨b, 3, none⟩ v3).setCell ⟨b, 4, none⟩ v4).setCell ⟨b, 5, none⟩ v5).setCell ⟨b, 6, none⟩ v6).setCell ⟨b, 7, none⟩ v7).cell? ⟨b, 2, none⟩ = some v2 ∧ ((((((((W.setCell ⟨b, 0, none⟩ v0).setCell ⟨b, 1, none⟩ v1).setCell ⟨b, 2, none⟩ v2).setCell ⟨b, 3, none⟩ v3).setCell ⟨b, 4, none⟩ v4).setCell ⟨b, 5, none⟩ v5).setCell ⟨b, 6, none⟩ v6).setCell ⟨b, 7, none⟩ v7).cell? ⟨b, 3, none⟩ = some v3 ∧ ((((((((W.setCell ⟨b, 0, none⟩ v0).setCell ⟨b, 1, none⟩ v1).setCell ⟨b, 2, none⟩ v2).setCell ⟨b, 3, none⟩ v3).setCell ⟨b, 4, none⟩ v4).setCell ⟨b, 5, none⟩ v5).setCell ⟨b, 6, none⟩ v6).setCell ⟨b, 7, none⟩ v7).cell? ⟨b, 4, none⟩ = some v4 ∧ ((((((((W.setCell ⟨b, 0, none⟩ v0).setCell ⟨b, 1, none⟩ v1).setCell ⟨b, 2, none⟩ v2).setCell ⟨b, 3, none⟩ v3).setCell ⟨b, 4, none⟩ v4).setCell ⟨b, 5, none⟩ v5).setCell ⟨b, 6, none⟩ v6).setCell ⟨b, 7, none⟩ v7).cell? ⟨b, 5, none⟩ = some v5 ∧ ((((((((W.setCell ⟨b, 0, none⟩ v0).setCell ⟨b, 1, none⟩ v1).setCell ⟨b, 2, none⟩ v2).setCell ⟨b, 3, none⟩ v3).setCell ⟨b, 4, none⟩ v4).setCell ⟨b, 5, none⟩ v5).setCell ⟨b, 6, none⟩ v6).setCell ⟨b, 7, none⟩ v7).cell? ⟨b, 6, none⟩ = some v6 ∧ ((((((((W.setCell ⟨b, 0, none⟩ v0).setCell ⟨b, 1, none⟩ v1).setCell ⟨b, 2, none⟩ v2).setCell ⟨b, 3, none⟩ v3).setCell ⟨b, 4, none⟩ v4).setCell ⟨b, 5, none⟩ v5).setCell ⟨b, 6, none⟩ v6).setCell ⟨b, 7, none⟩ v7).cell? ⟨b, 7, none⟩ = some v7 := by
  refine ⟨?_, ?_, ?_, ?_, ?_, ?_, ?_, ?_⟩
  · rw [World.cell?_setCell_other _ _ _ _ (by simp), World.cell?_setCell_other _ _ _ _ (by simp), World.cell?_setCell_other _ _ _ _ (by simp), World.cell?_setCell_other _ _ _ _ (by simp), World.cell?_setCell_other _ _ _ _ (by simp), World.cell?_setCell_other _ _ _ _ (by simp), World.cell?_setCell_other _ _ _ _ (by simp)]; refine World.cell?_setCell_same' _ _ _ ?_; exact h 0 (by omega)
  · rw [World.cell?_setCell_other _ _ _ _ (by simp), World.cell?_setCell_other _ _ _ _ (by simp), World.cell?_setCell_other _ _ _ _ (by simp), World.cell?_setCell_other _ _ _ _ (by simp), World.cell?_setCell_other _ _ _ _ (by simp), World.cell?_setCell_other _ _ _ _ (by simp)]; refine World.cell?_setCell_same' _ _ _ ?_; rw [World.cell?_setCell_other _ _ _ _ (by simp)]; exact h 1 (by omega)
  · rw [World.cell?_setCell_other _ _ _ _ (by simp), World.cell?_setCell_other _ _ _ _ (by simp), World.cell?_setCell_other _ _ _ _ (by simp), World.cell?_setCell_other _ _ _ _ (by simp), World.cell?_setCell_other _ _ _ _ (by simp)]; refine World.cell?_setCell_same' _ _ _ ?_; rw [World.cell?_setCell_other _ _ _ _ (by simp), World.cell?_setCell_other _ _ _ _ (by simp)]; exact h 2 (by omega)
  · rw [World.cell?_setCell_other _ _ _ _ (by simp), World.cell?_setCell_other _ _ _ _ (by simp), World.cell?_setCell_other _ _ _ _ (by simp), World.cell?_setCell_other _ _ _ _ (by simp)]; refine World.cell?_setCell_same' _ _ _ ?_; rw [World.cell?_setCell_other _ _ _ _ (by simp), World.cell?_setCell_other _ _ _ _ (by simp), World.cell?_setCell_other _ _ _ _ (by simp)]; exact h 3 (by omega)
  · rw [World.cell?_setCell_other _ _ _ _ (by simp), World.cell?_setCell_other _ _ _ _ (by simp), World.cell?_setCell_other _ _ _ _ (by simp)]; refine World.cell?_setCell_same' _ _ _ ?_; rw [World.cell?_setCell_other _ _ _ _ (by simp), World.cell?_setCell_other _ _ _ _ (by simp), World.cell?_setCell_other _ _ _ _ (by simp), World.cell?_setCell_other _ _ _ _ (by simp)]; exact h 4 (by omega)
  · rw [World.cell?_setCell_other _ _ _ _ (by simp), World.cell?_setCell_other _ _ _ _ (by simp)]; refine World.cell?_setCell_same' _ _ _ ?_; rw [World.cell?_setCell_other _ _ _ _ (by simp), World.cell?_setCell_other _ _ _ _ (by simp), World.cell?_setCell_other _ _ _ _ (by simp), World.cell?_setCell_other _ _ _ _ (by simp), World.cell?_setCell_other _ _ _ _ (by simp)]; exact h 5 (by omega)
  · rw [World.cell?_setCell_other _ _ _ _ (by simp)]; refine World.cell?_setCell_same' _ _ _ ?_; rw [World.cell?_setCell_other _ _ _ _ (by simp), World.cell?_setCell_other _ _ _ _ (by simp), World.cell?_setCell_other _ _ _ _ (by simp), World.cell?_setCell_other _ _ _ _ (by simp), World.cell?_setCell_other _ _ _ _ (by simp), World.cell?_setCell_other _ _ _ _ (by simp)]; exact h 6 (by omega)
  · refine World.cell?_setCell_same' _ _ _ ?_; rw [World.cell?_setCell_other _ _ _ _ (by simp), World.cell?_setCell_other _ _ _ _ (by simp), World.cell?_setCell_other _ _ _ _ (by simp), World.cell?_setCell_other _ _ _ _ (by simp), World.cell?_setCell_other _ _ _ _ (by simp), World.cell?_setCell_other _ _ _ _ (by simp), World.cell?_setCell_other _ _ _ _ (by simp)]; exact h 7 (by omega)


set_option maxHeartbeats 2000000 in
theorem toldBlock (x0 x1 x2 x3 x4 x5 x6 x7 : Int) (hv : ∀ z ∈ [x0, x1, x2, x3, x4, x5, x6, x7], -4096 ≤ z ∧ z ≤ 4096) (w : World) :
    Calls Try.prog 34 #[.agg #[.float .f32 (f32 x0), .float .f32 (f32 x1), .float .f32 (f32 x2), .float .f32 (f32 x3), .float .f32 (f32 x4), .float .f32 (f32 x5), .float .f32 (f32 x6), .float .f32 (f32 x7)]] w fun e w' => e = .returned (.agg #[.int .i64 x0, .int .i64 x1, .int .i64 x2, .int .i64 x3, .int .i64 x4, .int .i64 x5, .int .i64 x6, .int .i64 x7]) ∧ Below w.heap.size w w' := by
  have RD := Lib.hid (show ∀ W, Below (w.alloc (.cells #[.float .f32 (f32 x0), .float .f32 (f32 x1), .float .f32 (f32 x2), .float .f32 (f32 x3), .float .f32 (f32 x4), .float .f32 (f32 x5), .float .f32 (f32 x6), .float .f32 (f32 x7)] 59)).heap.size (w.alloc (.cells #[.float .f32 (f32 x0), .float .f32 (f32 x1), .float .f32 (f32 x2), .float .f32 (f32 x3), .float .f32 (f32 x4), .float .f32 (f32 x5), .float .f32 (f32 x6), .float .f32 (f32 x7)] 59)) W → Rd W W.heap.size (some ⟨w.heap.size, 0, none⟩) (fls [x0, x1, x2, x3, x4, x5, x6, x7]) from fun W hW => by
    refine Or.inr ⟨w.heap.size, 0, rfl, ?_, fun j v hj => ?_⟩
    · have := hW.size; simp at this; omega
    · rw [hW.cell (p := ⟨w.heap.size, 0 + j, none⟩) (by simp)]
      have hl : j < 8 := (List.getElem?_eq_some_iff.1 hj).1
      match j, hl with
      | 0, _ => simp [fls] at hj; subst hj; go_simp
      | 1, _ => simp [fls] at hj; subst hj; go_simp
      | 2, _ => simp [fls] at hj; subst hj; go_simp
      | 3, _ => simp [fls] at hj; subst hj; go_simp
      | 4, _ => simp [fls] at hj; subst hj; go_simp
      | 5, _ => simp [fls] at hj; subst hj; go_simp
      | 6, _ => simp [fls] at hj; subst hj; go_simp
      | 7, _ => simp [fls] at hj; subst hj; go_simp)
  have V := Lib.hid hv
  clear hv
  go_enter Try.func34, Try.ntmps34
  go_wp2_with fail
  refine (toldTrack _ 8 8 [x0, x1, x2, x3, x4, x5, x6, x7] _ rfl (by omega) (RD.out _ ((Below.refl _ _).alloc (Nat.le_refl _) _)) V.out).mono ?_
  rintro e w2 ⟨g, c, rfl, ho, hb2⟩
  have BV := Lib.hid (show Below w.heap.size w w2 from (((Below.refl w.heap.size w).alloc (Nat.le_refl _) _).alloc (by simp) _).trans (hb2.mono (by simp; try omega)))
  have a0 : w2.cell? ⟨w.heap.size + 1, 0, none⟩ = some (.int .i64 0) := (hb2.cell (p := ⟨w.heap.size + 1, 0, none⟩) (by simp)).trans (by go_simp)
  have d0 : w2.frozen? ⟨w.heap.size + 1, 0, none⟩ = false := (hb2.frozen (p := ⟨w.heap.size + 1, 0, none⟩) (by simp)).trans (by go_simp)
  have a1 : w2.cell? ⟨w.heap.size + 1, 1, none⟩ = some (.int .i64 0) := (hb2.cell (p := ⟨w.heap.size + 1, 1, none⟩) (by simp)).trans (by go_simp)
  have d1 : w2.frozen? ⟨w.heap.size + 1, 1, none⟩ = false := (hb2.frozen (p := ⟨w.heap.size + 1, 1, none⟩) (by simp)).trans (by go_simp)
  have a2 : w2.cell? ⟨w.heap.size + 1, 2, none⟩ = some (.int .i64 0) := (hb2.cell (p := ⟨w.heap.size + 1, 2, none⟩) (by simp)).trans (by go_simp)
  have d2 : w2.frozen? ⟨w.heap.size + 1, 2, none⟩ = false := (hb2.frozen (p := ⟨w.heap.size + 1, 2, none⟩) (by simp)).trans (by go_simp)
  have a3 : w2.cell? ⟨w.heap.size + 1, 3, none⟩ = some (.int .i64 0) := (hb2.cell (p := ⟨w.heap.size + 1, 3, none⟩) (by simp)).trans (by go_simp)
  have d3 : w2.frozen? ⟨w.heap.size + 1, 3, none⟩ = false := (hb2.frozen (p := ⟨w.heap.size + 1, 3, none⟩) (by simp)).trans (by go_simp)
  have a4 : w2.cell? ⟨w.heap.size + 1, 4, none⟩ = some (.int .i64 0) := (hb2.cell (p := ⟨w.heap.size + 1, 4, none⟩) (by simp)).trans (by go_simp)
  have d4 : w2.frozen? ⟨w.heap.size + 1, 4, none⟩ = false := (hb2.frozen (p := ⟨w.heap.size + 1, 4, none⟩) (by simp)).trans (by go_simp)
  have a5 : w2.cell? ⟨w.heap.size + 1, 5, none⟩ = some (.int .i64 0) := (hb2.cell (p := ⟨w.heap.size + 1, 5, none⟩) (by simp)).trans (by go_simp)
  have d5 : w2.frozen? ⟨w.heap.size + 1, 5, none⟩ = false := (hb2.frozen (p := ⟨w.heap.size + 1, 5, none⟩) (by simp)).trans (by go_simp)
  have a6 : w2.cell? ⟨w.heap.size + 1, 6, none⟩ = some (.int .i64 0) := (hb2.cell (p := ⟨w.heap.size + 1, 6, none⟩) (by simp)).trans (by go_simp)
  have d6 : w2.frozen? ⟨w.heap.size + 1, 6, none⟩ = false := (hb2.frozen (p := ⟨w.heap.size + 1, 6, none⟩) (by simp)).trans (by go_simp)
  have a7 : w2.cell? ⟨w.heap.size + 1, 7, none⟩ = some (.int .i64 0) := (hb2.cell (p := ⟨w.heap.size + 1, 7, none⟩) (by simp)).trans (by go_simp)
  have d7 : w2.frozen? ⟨w.heap.size + 1, 7, none⟩ = false := (hb2.frozen (p := ⟨w.heap.size + 1, 7, none⟩) (by simp)).trans (by go_simp)
  have e0 : w2.cell? ⟨g, 0, none⟩ = some (.int .i64 x0) := (ho.cellAt 0 (by show 0 < 8 * 1; omega)).trans rfl
  have e1 : w2.cell? ⟨g, 1, none⟩ = some (.int .i64 x1) := (ho.cellAt 1 (by show 1 < 8 * 1; omega)).trans rfl
  have e2 : w2.cell? ⟨g, 2, none⟩ = some (.int .i64 x2) := (ho.cellAt 2 (by show 2 < 8 * 1; omega)).trans rfl
  have e3 : w2.cell? ⟨g, 3, none⟩ = some (.int .i64 x3) := (ho.cellAt 3 (by show 3 < 8 * 1; omega)).trans rfl
  have e4 : w2.cell? ⟨g, 4, none⟩ = some (.int .i64 x4) := (ho.cellAt 4 (by show 4 < 8 * 1; omega)).trans rfl
  have e5 : w2.cell? ⟨g, 5, none⟩ = some (.int .i64 x5) := (ho.cellAt 5 (by show 5 < 8 * 1; omega)).trans rfl
  have e6 : w2.cell? ⟨g, 6, none⟩ = some (.int .i64 x6) := (ho.cellAt 6 (by show 6 < 8 * 1; omega)).trans rfl
  have e7 : w2.cell? ⟨g, 7, none⟩ = some (.int .i64 x7) := (ho.cellAt 7 (by show 7 < 8 * 1; omega)).trans rfl
  have p1 : g < w2.heap.size := (ho.lt g rfl).2
  have hat : ∀ v, (Instr.arrayAt 56 (.slice (some ⟨g, 0, none⟩) 8 c)).run Try.prog v = .ok (.pointer (some ⟨g, 0, none⟩)) v := fun v => run_arrayAt v 56 _ 8 _ 8 c Try.underlying56 (by omega)
  clear ho hb2 RD V
  go_wp2_with fail
  obtain ⟨s0, s1, s2, s3, s4, s5, s6, s7⟩ := set8 (W := w2) (b := w.heap.size + 1) (v0 := .int .i64 x0) (v1 := .int .i64 x1) (v2 := .int .i64 x2) (v3 := .int .i64 x3) (v4 := .int .i64 x4) (v5 := .int .i64 x5) (v6 := .int .i64 x6) (v7 := .int .i64 x7) (by intro j hj; match j, hj with | 0, _ => (rw [a0]; rfl) | 1, _ => (rw [a1]; rfl) | 2, _ => (rw [a2]; rfl) | 3, _ => (rw [a3]; rfl) | 4, _ => (rw [a4]; rfl) | 5, _ => (rw [a5]; rfl) | 6, _ => (rw [a6]; rfl) | 7, _ => (rw [a7]; rfl))
  (try simp only [Exit.inBlock, Exit.then])
  refine bodyPost_ret (v := .agg #[.int .i64 x0, .int .i64 x1, .int .i64 x2, .int .i64 x3, .int .i64 x4, .int .i64 x5, .int .i64 x6, .int .i64 x7]) (by simp only [results, Try.results34, s0, s1, s2, s3, s4, s5, s6, s7]; simp [go_sem, s0, s1, s2, s3, s4, s5, s6, s7]; try rfl) rfl ?_
  exact ⟨rfl, BV.out.trans (by go_grown)⟩

theorem filled0 (a : Option Addr) (c : Nat) (w : World) : Calls Try.prog 33 #[.slice a 0 c] w fun e w' => e = .returned (.slice a 0 c) ∧ w = w' := by
  go_enter Try.func33, Try.ntmps33
  go_wp2_with fail
  go_loop [0] (fun v => v = .slice a 0 c) (fun _ => 0)
  case atStart => rfl
  case round =>
    subst hrel
    go_wp2_with fail
    go_ret
    exact ⟨rfl, rfl⟩
theorem bl_ne {w : World} {base base' s s' g g' n n' c c' : Nat} {e e' : TypeId} {xs xs' : List Value} (h : w.ownsRow base e s (.slice (some ⟨g, 0, none⟩) n c) n xs) (h' : w.ownsRow base' e' s' (.slice (some ⟨g', 0, none⟩) n' c') n' xs') (ne : e ≠ e') : g ≠ g' := by
  intro hg
  subst hg
  rcases h.2 with ⟨e1, _⟩ | ⟨a, cap, cur, e1, _, e3, _⟩
  · cases e1
  rcases h'.2 with ⟨f1, _⟩ | ⟨b, cap', cur', f1, _, f3, _⟩
  · cases f1
  injection e1 with e1; injection e1 with e1; injection e1 with e1
  injection f1 with f1; injection f1 with f1; injection f1 with f1
  subst e1 f1
  rw [e3] at f3
  injection f3 with f3
  injection f3 with _ f3
  exact ne f3
theorem tneB : (56 : TypeId) ≠ 58 := by decide
theorem own_cap {w : World} {base s g n c : Nat} {e : TypeId} {xs : List Value} (h : w.ownsRow base e s (.slice (some ⟨g, 0, none⟩) n c) n xs) : n ≤ c := by
  rcases h.2 with ⟨e1, _⟩ | ⟨a, cap, cur, e1, _, _, h4, _⟩
  · cases e1
  · injection e1 with _ _ e4; subst e4; exact h4

set_option maxHeartbeats 4000000 in
theorem blocksI (A : Option Addr) (n c : Nat) (zs : List Int) (w : World) (hn : zs.length = n) (hb : n ≤ 1048576) (hr : Rd w w.heap.size A (ints zs)) :
    Calls Try.prog 10 #[.slice A n c] w (RowB w (blV zs)) := by
  obtain ⟨i0, hi, hz0, hz1, hz2⟩ := info_of Bl8.infoB
  have N := Lib.hid hn
  have O1 := Lib.hid (World.ownsRow_lit (base := w.heap.size) (e := 56) (size := 8) w #[] 0 (Nat.le_refl _) (Nat.zero_le _) rfl)
  have B1 := Lib.hid (show Below w.heap.size w (w.alloc (.cells #[] 56)) from (Below.refl _ _).alloc (Nat.le_refl _) _)
  cases ht : tk zs
  · have C := Lib.hid (whole_no A n c zs w.heap.size (w.alloc (.cells #[] 56)) hn hb (hr.below B1.out) ht)
    have FG := Lib.hid (blV_no ht)
    clear hn hr ht
    go_enter Try.func10, Try.ntmps10
    go_wp2_with fail
    refine C.out.mono ?_
    rintro e w' ⟨rfl, rfl⟩
    go_wp2_with fail
    refine (filled0 _ _ _).mono ?_
    rintro e w' ⟨rfl, rfl⟩
    go_wp2_with fail
    go_loopw [3, 6] (fun v i wr => i = .int .i64 0 ∧ v = .slice (some ⟨w.heap.size, 0, none⟩) 0 0 ∧ Hid (wr.ownsRow w.heap.size 56 8 (.slice (some ⟨w.heap.size, 0, none⟩) 0 0) 0 []) ∧ Hid (Below w.heap.size w wr)) (fun _ _ _ => 0)
    case atStart => exact ⟨rfl, rfl, O1, B1⟩
    case round =>
      obtain ⟨rfl, rfl, OK, BK⟩ := hrel
      clear O1 B1
      go_wp2_with fail
      go_ret
      rw [FG.out]; exact ⟨_, _, rfl, OK.out, BK.out⟩
  have C := Lib.hid (whole_yes A n c zs (w.alloc (.cells #[] 56)) hn hb ((hr.below B1.out).more B1.out.size) ht)
  have FL := Lib.hid (blV_yes ht)
  have D := Lib.hid (pd_ok (tk_iff.1 ht).2)
  have n64 : n ≤ 64 := by have := (tk_iff.1 ht).1; omega
  clear hr ht
  by_cases h0 : n = 0
  · have FE := Lib.hid (show pd zs = [] from List.eq_nil_of_length_eq_zero (by rw [pd_len]; omega))
    subst h0
    clear hn
    go_enter Try.func10, Try.ntmps10
    go_wp2_with fail
    refine C.out.mono ?_
    rintro e w1 ⟨g, rfl, ho, hb1⟩
    rw [N.out]
    have O2 := Lib.hid (owns_below O1.out hb1)
    have B2 := Lib.hid (B1.out.trans (hb1.mono B1.out.size))
    clear ho hb1 O1 B1
    go_wp2_with fail
    refine (filled0 _ _ _).mono ?_
    rintro e w' ⟨rfl, rfl⟩
    go_wp2_with fail
    go_loopw [3, 6] (fun v i wr => i = .int .i64 0 ∧ v = .slice (some ⟨w.heap.size, 0, none⟩) 0 0 ∧ Hid (wr.ownsRow w.heap.size 56 8 (.slice (some ⟨w.heap.size, 0, none⟩) 0 0) 0 []) ∧ Hid (Below w.heap.size w wr)) (fun _ _ _ => 0)
    case atStart => exact ⟨rfl, rfl, O2, B2⟩
    case round =>
      obtain ⟨rfl, rfl, OK, BK⟩ := hrel
      clear O2 B2
      go_wp2_with fail
      go_ret
      rw [FL.out, FE.out]; exact ⟨_, _, rfl, OK.out, BK.out⟩
  obtain ⟨m, hm⟩ : ∃ m, (n + 7) / 8 = m := ⟨_, rfl⟩
  have PL := Lib.hid (show (pd zs).length = m * 8 by rw [pd_len, hn, hm])
  have PM := Lib.hid (show (pd zs).length / 8 = m by rw [PL.out]; omega)
  have hm8 : m ≤ 8 := by omega
  have hn0 : 0 < n := by omega
  clear hn hm
  go_enter Try.func10, Try.ntmps10
  go_wp2_with fail
  refine C.out.mono ?_
  rintro e w1 ⟨g, rfl, ho, hb1⟩
  rw [N.out] at ho
  rw [N.out]
  have O2 := Lib.hid (owns_below O1.out hb1)
  have B2 := Lib.hid (B1.out.trans (hb1.mono B1.out.size))
  have OF0 := Lib.hid ho
  have GW := Lib.hid (own_at ho)
  clear ho hb1 O1 B1 C
  go_wp2_with fail
  refine (filledUp (w.alloc (.cells #[] 56)).heap.size g n n zs w1 N.out n64 hn0 (Nat.le_trans GW.out (Nat.le_of_lt (OF0.out.lt g rfl).2)) (Or.inr OF0.out) OF0.out w1 (Below.refl _ _)).mono ?_
  rintro e w2 ⟨g2, c2, rfl, ho2, hb2⟩
  rw [PL.out] at ho2
  rw [PL.out]
  have hc2 : m * 8 ≤ c2 := own_cap ho2
  have OF := Lib.hid ho2
  have O3 := Lib.hid (show w2.ownsRow w.heap.size 56 8 (.slice (some ⟨w.heap.size, 0, none⟩) 0 0) 0 [] from by
    refine ⟨O2.out.1, O2.out.2.imp id fun ⟨g', cap, cur, e1, e2, e3, e4⟩ => ⟨g', cap, cur, e1, e2, ?_, e4⟩⟩
    injection e1 with e1; injection e1 with e1; injection e1 with e1
    subst e1
    exact (hb2.block w.heap.size (by simp)).trans e3)
  have B3 := Lib.hid (B2.out.trans (hb2.mono (by simp)))
  clear ho2 hb2 O2 B2 OF0 GW
  go_wp2_with fail
  go_loopw [3, 6] (fun v i wr => ∃ k : Nat, k ≤ m ∧ i = .int .i64 ((k * 8 : Nat) : Int) ∧ (∃ gb gc, v = .slice (some ⟨gb, 0, none⟩) k gc) ∧ Hid (wr.ownsRow w.heap.size 56 8 v k (ints ((pd zs).take (k * 8)))) ∧ Hid (wr.ownsRow (w.alloc (.cells #[] 56)).heap.size 58 1 (.slice (some ⟨g2, 0, none⟩) (m * 8) c2) (m * 8) (fls (pd zs))) ∧ Hid (Below w.heap.size w wr)) (fun _ i _ => m * 8 - (intOf i).toNat)
  case atStart => exact ⟨0, Nat.zero_le _, by first | rfl | simp, ⟨_, _, rfl⟩, O3, OF, B3⟩
  case round =>
    obtain ⟨k, hk, rfl, ⟨gb, gc, rfl⟩, OK, OF9, BK⟩ := hrel
    clear O3 OF B3
    obtain ⟨p, hp⟩ : ∃ p, k * 8 = p := ⟨_, rfl⟩
    have HPp := Lib.hid hp
    rw [hp]
    by_cases hlt : k < m
    · have hp1 : p + 8 ≤ m * 8 := by omega
      have hp2 : p < m * 8 := by omega
      have hp3 : ¬ c2 = p := by omega
      have hp4 : p + 8 ≤ c2 := by omega
      obtain ⟨x0, y0⟩ : ∃ x, (pd zs)[k * 8]? = some x := ⟨_, List.getElem?_eq_getElem (by rw [PL.out]; omega)⟩
      have z0 := okT_get D.out y0
      obtain ⟨x1, y1⟩ : ∃ x, (pd zs)[k * 8 + 1]? = some x := ⟨_, List.getElem?_eq_getElem (by rw [PL.out]; omega)⟩
      have z1 := okT_get D.out y1
      obtain ⟨x2, y2⟩ : ∃ x, (pd zs)[k * 8 + 2]? = some x := ⟨_, List.getElem?_eq_getElem (by rw [PL.out]; omega)⟩
      have z2 := okT_get D.out y2
      obtain ⟨x3, y3⟩ : ∃ x, (pd zs)[k * 8 + 3]? = some x := ⟨_, List.getElem?_eq_getElem (by rw [PL.out]; omega)⟩
      have z3 := okT_get D.out y3
      obtain ⟨x4, y4⟩ : ∃ x, (pd zs)[k * 8 + 4]? = some x := ⟨_, List.getElem?_eq_getElem (by rw [PL.out]; omega)⟩
      have z4 := okT_get D.out y4
      obtain ⟨x5, y5⟩ : ∃ x, (pd zs)[k * 8 + 5]? = some x := ⟨_, List.getElem?_eq_getElem (by rw [PL.out]; omega)⟩
      have z5 := okT_get D.out y5
      obtain ⟨x6, y6⟩ : ∃ x, (pd zs)[k * 8 + 6]? = some x := ⟨_, List.getElem?_eq_getElem (by rw [PL.out]; omega)⟩
      have z6 := okT_get D.out y6
      obtain ⟨x7, y7⟩ : ∃ x, (pd zs)[k * 8 + 7]? = some x := ⟨_, List.getElem?_eq_getElem (by rw [PL.out]; omega)⟩
      have z7 := okT_get D.out y7
      have hv9 : ∀ z ∈ [x0, x1, x2, x3, x4, x5, x6, x7], -4096 ≤ z ∧ z ≤ 4096 := okM (fun z hz => by
        simp only [List.mem_cons, List.not_mem_nil, or_false] at hz
        rcases hz with rfl | rfl | rfl | rfl | rfl | rfl | rfl | rfl
        · exact z0
        · exact z1
        · exact z2
        · exact z3
        · exact z4
        · exact z5
        · exact z6
        · exact z7)
      have TBC := Lib.hid (fun W => toldBlock x0 x1 x2 x3 x4 x5 x6 x7 hv9 W)
      have E := Lib.hid (ints8 (zs := pd zs) (k := k) (by rw [PL.out]; omega) y0 y1 y2 y3 y4 y5 y6 y7)
      have c0_ : wr.cell? ⟨g2, p, none⟩ = some (.float .f32 (f32 x0)) := by rw [← hp]; exact (OF9.out.cellAt (k * 8) (by omega)).trans (fls_get y0)
      have c1_ : wr.cell? ⟨g2, p + 1, none⟩ = some (.float .f32 (f32 x1)) := by rw [← hp]; exact (OF9.out.cellAt (k * 8 + 1) (by omega)).trans (fls_get y1)
      have c2_ : wr.cell? ⟨g2, p + 2, none⟩ = some (.float .f32 (f32 x2)) := by rw [← hp]; exact (OF9.out.cellAt (k * 8 + 2) (by omega)).trans (fls_get y2)
      have c3_ : wr.cell? ⟨g2, p + 3, none⟩ = some (.float .f32 (f32 x3)) := by rw [← hp]; exact (OF9.out.cellAt (k * 8 + 3) (by omega)).trans (fls_get y3)
      have c4_ : wr.cell? ⟨g2, p + 4, none⟩ = some (.float .f32 (f32 x4)) := by rw [← hp]; exact (OF9.out.cellAt (k * 8 + 4) (by omega)).trans (fls_get y4)
      have c5_ : wr.cell? ⟨g2, p + 5, none⟩ = some (.float .f32 (f32 x5)) := by rw [← hp]; exact (OF9.out.cellAt (k * 8 + 5) (by omega)).trans (fls_get y5)
      have c6_ : wr.cell? ⟨g2, p + 6, none⟩ = some (.float .f32 (f32 x6)) := by rw [← hp]; exact (OF9.out.cellAt (k * 8 + 6) (by omega)).trans (fls_get y6)
      have c7_ : wr.cell? ⟨g2, p + 7, none⟩ = some (.float .f32 (f32 x7)) := by rw [← hp]; exact (OF9.out.cellAt (k * 8 + 7) (by omega)).trans (fls_get y7)
      have hat : ∀ cc v, (Instr.arrayAt 59 (.slice (some ⟨g2, p, none⟩) 8 cc)).run Try.prog v = .ok (.pointer (some ⟨g2, p, none⟩)) v := fun cc v => run_arrayAt v 59 _ 8 _ 8 cc Try.underlying59 (by omega)
      clear hp y0 z0 y1 z1 y2 z2 y3 z3 y4 z4 y5 z5 y6 z6 y7 z7 hv9
      go_wp2_with fail
      refine (TBC.out _).mono ?_
      rintro e w7 ⟨rfl, hb7⟩
      have OK7 := Lib.hid (owns_below OK.out hb7)
      have OF7 := Lib.hid (owns_below OF9.out hb7)
      have B7 := Lib.hid (BK.out.trans (hb7.mono BK.out.size))
      have hown := OK7.out.alloc
      have HS := Lib.hid (own_base OK7.out)
      have HW := Lib.hid B7.out.size
      have NE := Lib.hid (bl_ne OK7.out OF7.out tneB)
      clear hb7 OK OF9 BK c0_ c1_ c2_ c3_ c4_ c5_ c6_ c7_
      go_wp2_with (at_builtin; refine wpList_append_own _ rfl _ _ 26 rfl w.heap.size 56 i0 (.agg #[.int .i64 0, .int .i64 0, .int .i64 0, .int .i64 0, .int .i64 0, .int .i64 0, .int .i64 0, .int .i64 0]) 8 64 Try.underlying26 hi hz0 hz1 hz2 rfl (by decide) _ _ _ rfl (hown _) ⟨w7.heap.size, 0, none⟩ 1 1 [.int .i64 x0, .int .i64 x1, .int .i64 x2, .int .i64 x3, .int .i64 x4, .int .i64 x5, .int .i64 x6, .int .i64 x7] rfl rfl (by intro j u hj; match j, hj with | 0, hj => simp at hj; subst hj; simp [Addr.add] | 1, hj => simp at hj; subst hj; simp [Addr.add] | 2, hj => simp at hj; subst hj; simp [Addr.add] | 3, hj => simp at hj; subst hj; simp [Addr.add] | 4, hj => simp at hj; subst hj; simp [Addr.add] | 5, hj => simp at hj; subst hj; simp [Addr.add] | 6, hj => simp at hj; subst hj; simp [Addr.add] | 7, hj => simp at hj; subst hj; simp [Addr.add]) (by intro u hu; simp at hu; rcases hu with rfl | rfl | rfl | rfl | rfl | rfl | rfl | rfl <;> rfl) (by unfold maxLen; omega) (by omega) (by have := HW.out; simp; omega) ?_)
      intro v' w5 hown' hgrow hnil
      rw [E.out] at hown'
      obtain ⟨g5, c5, rfl⟩ := own_mk hown'
      have OO := Lib.hid hown'
      have OF5 := Lib.hid (owns_grown (OF7.out.alloc _) hgrow (fun k hk => by cases hk; intro hk2; cases hk2; exact NE.out rfl))
      have BB := Lib.hid ((B7.out.alloc B7.out.size _).grown hgrow (by have := HW.out; simp; omega) (fun j hj => HS.out j hj))
      clear hown' hgrow hnil HS HW hown E OK7 OF7 B7 NE TBC
      go_wp2_with fail
      go_roundw
      case rel => exact ⟨k + 1, by omega, by (have := HPp.out; congr 1; omega), ⟨g5, c5, rfl⟩, OO, OF5, BB⟩
      case measure => (have := HPp.out; simp [intOf]; omega)
    · obtain ⟨hkm, _⟩ : k = m ∧ True := ⟨by omega, trivial⟩
      have OE := Lib.hid (show wr.ownsRow w.heap.size 56 8 (.slice (some ⟨gb, 0, none⟩) m gc) m (ints (pd zs)) by
        have := OK.out
        rw [hkm] at this
        rwa [← PL.out, List.take_length] at this)
      have hp9 : ¬ p < m * 8 := by omega
      subst hkm
      clear OK hp
      go_wp2_with fail
      go_ret
      rw [FL.out]
      refine ⟨gb, gc, ?_, ?_, BK.out⟩
      · rw [PM.out]; rfl
      · rw [PM.out]; exact OE.out

end Go.Proofs.Ytmbiomekbinplaa.Bo8
