/- slices.Repeat of one element. -/
import Derived.Test.YtmbiomekbinplaaFx8
import Derived.Laws.CopyOwn
import Derived.Deep.RegionLaw
namespace Go.Proofs.Ytmbiomekbinplaa.Rp8
open Go.RowKit Go.Proofs.Ytmbiomekbinplaa.Mem Go.Proofs.Ytmbiomekbinplaa.Tk Go.Proofs.Ytmbiomekbinplaa.Ti8 Go.Proofs.Ytmbiomekbinplaa.Rw Go.Proofs.Ytmbiomekbinplaa.Meas Go.Proofs.Ytmbiomekbinplaa.Fw8
set_option linter.unusedVariables false
set_option linter.unusedSimpArgs false

open Go.Proofs.Ytmbiomekbinplaa.Fx8 Go.ChangeShapes Go.WideShapes Go.WideElems
def hiE (y : Int) : Int := IntKind.u64.wrap (IntKind.u64.wrap (IntKind.u64.wrap (IntKind.u64.wrap (bits BinOp.and IntKind.u64 1 4294967295 * bits BinOp.and IntKind.u64 y 4294967295) / 4294967296) / 4294967296) + IntKind.u64.wrap (bits BinOp.and IntKind.u64 (IntKind.u64.wrap (IntKind.u64.wrap (bits BinOp.and IntKind.u64 1 4294967295 * bits BinOp.and IntKind.u64 y 4294967295) / 4294967296)) 4294967295 + IntKind.u64.wrap (bits BinOp.and IntKind.u64 1 4294967295 * (y / 4294967296))) / 4294967296)
theorem hi0 (y : Nat) (h : y ≤ 64) : hiE (y : Int) = 0 := by
  have key : ∀ i : Fin 65, hiE (i.val : Int) = 0 := by decide +kernel
  exact key ⟨y, by omega⟩
theorem mul64 (y : Nat) (h : y ≤ 64) (w : World) : Calls Try.prog 58 #[.int .u64 1, .int .u64 (y : Int)] w fun e w' => e = .returned (.tuple #[.int .u64 0, .int .u64 (y : Int)]) ∧ w = w' := by
  have H := Lib.hid (hi0 y h)
  go_enter Try.func58, Try.ntmps58
  go_wp2_with fail
  go_ret2
  refine ⟨?_, rfl⟩
  rw [← H.out]
  first | rfl | (unfold hiE; rfl)
theorem mul1 (y : Nat) (h : y ≤ 64) (w : World) : Calls Try.prog 51 #[.int .u64 1, .int .u64 (y : Int)] w fun e w' => e = .returned (.tuple #[.int .u64 0, .int .u64 (y : Int)]) ∧ w = w' := by
  have H := Lib.hid (fun v => mul64 y h v)
  go_enter Try.func51, Try.ntmps51
  go_wp2_with fail
  refine (H.out _).mono ?_
  rintro e w' ⟨rfl, rfl⟩
  go_wp2_with fail
  go_ret2
  exact ⟨rfl, rfl⟩
theorem row_heap {w : World} {base g n : Nat} {e : TypeId} {xs : List Value} (h : w.ownsRow base e 1 (.slice (some ⟨g, 0, none⟩) n n) n xs) : w.heap[g]? = some (.cells xs.toArray e (0, 0)) := by
  rcases h.2 with ⟨e1, _⟩ | ⟨g', cap, cur, e1, _, e3, _, _, e6, e7⟩
  · cases e1
  · injection e1 with e1 e2 e4; injection e1 with e1; injection e1 with e1; subst e1 e4
    rw [e3]
    congr 2
    rw [← e7, List.take_of_length_le (by simp; omega)]
theorem row_of {w : World} {base g n : Nat} {e : TypeId} {xs : List Value} (h : w.heap[g]? = some (.cells xs.toArray e (0, 0))) (hl : xs.length = n) (hm : n ≤ maxLen) (hg : base ≤ g) : w.ownsRow base e 1 (.slice (some ⟨g, 0, none⟩) n n) n xs :=
  ⟨by omega, Or.inr ⟨g, n, xs.toArray, rfl, hg, h, Nat.le_refl _, hm, by simp; omega, by rw [List.take_of_length_le (by simp; omega)]⟩⟩
theorem oneI : (Try.prog.info? 3).map (·.size) = some 1 := by kernel_rfl
/-- The first q are z. -/
def pre (z : Int) (c q : Nat) : List Value := ints (List.replicate q z ++ List.replicate (c - q) 0)
theorem pre_len {z : Int} {c q : Nat} (h : q ≤ c) : (pre z c q).length = c := by unfold pre; rw [ints_len]; simp; omega
theorem pre_zero (z : Int) (c : Nat) : pre z c 0 = List.replicate c (.int .i64 0) := by unfold pre ints; simp
theorem pre_all (z : Int) (c : Nat) : pre z c c = ints (List.replicate c z) := by unfold pre; simp
theorem pre_get {z : Int} {c q j : Nat} (h : j < q) (hq : q ≤ c) : (pre z c q)[j]? = some (.int .i64 z) := by
  unfold pre ints; rw [List.getElem?_map, List.getElem?_append_left (by simp; exact h), List.getElem?_replicate, if_pos h]; rfl
theorem pre_splice {z : Int} {c q k : Nat} (hk : q + k ≤ c) : splice (pre z c q) q (ints (List.replicate k z)) = pre z c (q + k) := by
  unfold splice pre ints
  rw [List.length_map, List.length_replicate]
  apply List.ext_getElem?
  intro j
  rw [List.getElem?_map]
  by_cases h1 : j < q
  · rw [List.getElem?_append_left (by simp; omega), List.getElem?_take_of_lt h1, List.getElem?_map, List.getElem?_append_left (by simp; omega), List.getElem?_append_left (by simp; omega), List.getElem?_replicate, List.getElem?_replicate, if_pos h1, if_pos (by omega)]
  · rw [List.getElem?_append_right (by simp; omega)]
    have hl : ((List.replicate q z ++ List.replicate (c - q) 0).map (Value.int .i64)).length = c := by simp; omega
    rw [List.length_take, hl, Nat.min_eq_left (by omega)]
    by_cases h2 : j < q + k
    · rw [List.getElem?_append_left (by simp; omega), List.getElem?_map, List.getElem?_replicate, if_pos (by omega), List.getElem?_append_left (by simp; omega), List.getElem?_replicate, if_pos h2]
    · rw [List.getElem?_append_right (by simp; omega), List.length_map, List.length_replicate, List.getElem?_drop, List.getElem?_map, List.getElem?_append_right (by simp; omega), List.getElem?_append_right (by simp; omega)]
      simp only [List.length_replicate, List.getElem?_replicate]
      congr 1
      by_cases h3 : j < c
      · rw [if_pos (by omega), if_pos (by omega)]
      · rw [if_neg (by omega), if_neg (by omega)]
theorem one_cell {l : List Int} : ∀ u ∈ ints l, u.oneCell' = true := fun u hu => by obtain ⟨z, _, rfl⟩ := List.mem_map.1 hu; rfl
def Reads (w : World) (a : Addr) (xs : List Value) : Prop := ∀ j v, xs[j]? = some v → w.cell? (a.add j) = some v

set_option maxHeartbeats 2000000 in
theorem repeat1 (b o cx : Nat) (z : Int) (c : Nat) (w : World) (h1 : 1 ≤ c) (h2 : c ≤ 64) (hc : w.cell? ⟨b, o, none⟩ = some (.int .i64 z)) :
    Calls Try.prog 37 #[.slice (some ⟨b, o, none⟩) 1 cx, .int .i64 (c : Int)] w fun e w' => ∃ g, e = .returned (.slice (some ⟨g, 0, none⟩) c c) ∧ w'.ownsRow w.heap.size 3 1 (.slice (some ⟨g, 0, none⟩) c c) c (ints (List.replicate c z)) ∧ Below w.heap.size w w' := by
  obtain ⟨i0, hi, hz0, hz1, hz2⟩ := info_of infoI
  have M := Lib.hid (fun v => mul1 c h2 v)
  have HC := Lib.hid hc
  have hb := World.block_lt_of_cell? w _ hc
  clear hc
  go_enter Try.func37, Try.ntmps37
  go_wp2_with fail
  refine (M.out _).mono ?_
  rintro e w' ⟨rfl, rfl⟩
  go_wp2_with (at_make; refine wpList_make_full _ rfl _ _ 24 rfl w.heap.size 3 i0 (.int .i64 0) 1 Try.underlying24 hi hz0 hz1 .i64 .i64 c c c rfl rfl rfl rfl (by rw [hz2]; omega) (by unfold maxLen; omega) (Nat.le_refl _) ?_; intro w1 hown hgrow; clear hi hz0 hz1 hz2)
  have HG := Lib.hid (show w1.heap[w.heap.size]? = some (.cells (pre z c 0).toArray 3 (0, 0)) by rw [made_one _ rfl] at hown; rw [pre_zero]; exact row_heap hown)
  have B1 := Lib.hid (show Below w.heap.size w w1 from (Below.refl _ _).grown hgrow (Nat.le_refl _) (fun k hk => by cases hk))
  clear hown hgrow
  have CE := run_copy_row (P := Try.prog) w1 24 24 3 3 w.heap.size 0 c c ⟨b, o, none⟩ 1 cx (pre z c 0).toArray 3 (ints (List.replicate 1 z)) Try.underlying24 oneI HG.out (by rw [ints_len, List.length_replicate]; exact (Nat.min_eq_left h1).symm) (fun j v hj => by
    match j, hj with
    | 0, hj => simp [ints] at hj; subst hj; exact (B1.out.cell (p := ⟨b, o, none⟩) hb).trans HC.out) (by rw [ints_len]; simp [pre_len (Nat.zero_le c)]; exact h1) one_cell
  obtain ⟨w4, hw4⟩ : ∃ w4, w1.setRow w.heap.size (splice (pre z c 0) 0 (ints (List.replicate 1 z))).toArray = w4 := ⟨_, rfl⟩
  have HG4 := Lib.hid (show w4.heap[w.heap.size]? = some (.cells (splice (pre z c 0) 0 (ints (List.replicate 1 z))).toArray 3 (0, 0)) by rw [← hw4]; exact setRow_heap w1 w.heap.size _ _ 3 _ HG.out)
  have hB4 := below_setRow B1.out (Nat.le_refl _) (splice (pre z c 0) 0 (ints (List.replicate 1 z))).toArray
  rw [hw4] at hB4
  change _ = Result.ok (goInt _) (w1.setRow w.heap.size (splice (pre z c 0) 0 (ints (List.replicate 1 z))).toArray) at CE
  rw [hw4, ints_len, List.length_replicate] at CE
  rw [pre_splice (by omega)] at HG4
  have B4 := Lib.hid hB4
  clear hw4 HG B1 hB4
  go_wp2_with fail
  rw [CE]
  clear CE
  go_wp2_with fail
  go_loopw [8] (fun i wr => ∃ q : Nat, 1 ≤ q ∧ q ≤ c ∧ i = .int .i64 q ∧ Hid (wr.heap[w.heap.size]? = some (.cells (pre z c q).toArray 3 (0, 0))) ∧ Hid (Below w.heap.size w wr)) (fun i _ => c - (intOf i).toNat)
  case atStart => exact ⟨1, Nat.le_refl _, h1, by first | rfl | simp, HG4, B4⟩
  case round =>
    obtain ⟨q, hq1, hq2, rfl, GK, BK⟩ := hrel
    clear HG4 B4
    by_cases hlt : q < c
    · obtain ⟨k, hk⟩ : ∃ k, Nat.min q (c - q) = k := ⟨_, rfl⟩
      have hk1 : 1 ≤ k := by rw [← hk]; exact Nat.le_min.2 ⟨hq1, by omega⟩
      have hk2 : k ≤ q := by rw [← hk]; exact Nat.min_le_left _ _
      have hk3 : k ≤ c - q := by rw [← hk]; exact Nat.min_le_right _ _
      have S1 := Lib.hid (show (ints (List.replicate k z)).length = Nat.min q (c - q) by rw [ints_len, List.length_replicate]; exact hk.symm)
      have S2 := Lib.hid (show Reads wr.drew ⟨w.heap.size, 0, none⟩ (ints (List.replicate k z)) from fun j v hj => by
        have hl : j < k := by have := (List.getElem?_eq_some_iff.1 hj).1; rwa [ints_len, List.length_replicate] at this
        have hv : v = .int .i64 z := by
          unfold ints at hj
          rw [List.getElem?_map, List.getElem?_replicate, if_pos hl] at hj
          injection hj with hj; exact hj.symm
        rw [hv, add_plain]
        exact cell_of_row wr w.heap.size (0 + j) _ _ _ GK.out |>.trans (by rw [Nat.zero_add, List.getElem?_toArray]; exact pre_get (by omega) hq2))
      have S3 := Lib.hid (show q + (ints (List.replicate k z)).length ≤ (pre z c q).length by rw [ints_len, List.length_replicate, pre_len hq2]; omega)
      have BD := Lib.hid (show Below w.heap.size w wr.drew from BK.out.drew)
      have S4 := Lib.hid (show (ints (List.replicate k z)).length = k by rw [ints_len, List.length_replicate])
      have hcq : ¬ c = q := by omega
      have i1 : (0 : Int) ≤ (q : Int) := by omega
      have i2 : (q : Int) ≤ (c : Int) := by omega
      have i3 : IntKind.i64.wrap ((q : Int) + (k : Int)) = (q : Int) + (k : Int) := IntWalk.i64_in _ (by omega)
      clear hk
      go_wp2_with fail
      go_region_law (refine step_copy_splice rfl (.tmp 41) (.tmp 44) 24 24 rfl 3 Try.underlying24 oneI (some ⟨w.heap.size, q, none⟩) (some ⟨w.heap.size, 0, none⟩) (c - q) (c - q) q c (by simp [Act.eval, Act.put]) (by simp [Act.eval, Act.put]) w.heap.size q (pre z c q) 3 GK.out (ints (List.replicate k z)) S1.out (fun hp => ⟨rfl, ⟨w.heap.size, 0, none⟩, rfl, S2.out⟩) S3.out one_cell w.heap.size w BD.out (Nat.le_refl _) ?_; intro w4 hg4 hb4; rw [S4.out])
      have G4 := Lib.hid (show w4.heap[w.heap.size]? = some (.cells (pre z c (q + k)).toArray 3 (0, 0)) by rw [← pre_splice (by omega)]; exact hg4.out)
      have B4 := Lib.hid hb4
      clear hg4 hb4 GK BK S1 S2 S3 BD S4
      go_wp2_with fail
      go_roundw
      case rel =>
        first
          | exact ⟨q + k, by omega, by omega, by first | rfl | (congr 1), G4, B4⟩
          | ((repeat apply Exists.intro); exact ⟨⟨q + k, by omega, by omega, by first | rfl | (congr 1), G4, B4⟩, rfl⟩)
      case measure =>
        simp [Act.put, intOf, i3]
        omega
    · obtain rfl : q = c := by omega
      have RO := Lib.hid (row_of (base := w.heap.size) GK.out (pre_len (Nat.le_refl _)) (by unfold maxLen; omega) (Nat.le_refl _))
      rw [pre_all] at RO
      go_wp2_with fail
      go_ret
      exact ⟨w.heap.size, rfl, RO.out, BK.out⟩
end Go.Proofs.Ytmbiomekbinplaa.Rp8
