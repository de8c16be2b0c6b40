/- A slice of bytes that came in reads as a list of bytes. -/
import Derived.Test.YtokncfhpmjohdabGreatM14
import Derived.Test.YtokncfhpmjohdabGreatM18
import Derived.Test.YtokncfhpmjohdabGreatM19
set_option linter.unusedVariables false
set_option linter.unusedSimpArgs false
namespace Go.Proofs.YtokncfhpmjohdabGreat.RampFn
open Go.RowKit Go.ChangeShapes Go.WideShapes Go.Proofs.YtokncfhpmjohdabGreat.Mem Go.Proofs.YtokncfhpmjohdabGreat.Draw

theorem take_bytes {H : Type} {enc : TypeId × Value → H} {P : Program} {W : World} {r : Reach} {b0 : Nat} {t e : TypeId} {v : Value} {d : DataW H} {ps : List MemPlace} (ht : P.underlying t = some (.slice e)) (he : P.underlying e = some (.int .u8)) (hc : P.cellsOf e = 1)
    (hval : Value.okWide P W r b0 t v) (h : DataW.Trod enc P W 0 (fun _ => true) true t v d ps) :
    ∃ (A : Option Addr) (n c : Nat) (bs : List UInt8), v = .slice A n c ∧ bs.length = n ∧ n ≤ maxLen ∧ Rd W W.heap.size A (u8s bs) := by
  obtain ⟨a0, len, cap, rfl⟩ := okWide_slice ht hval
  obtain ⟨fuel, hf⟩ := h
  rcases open_ints ht he hc hf with ⟨hcs, _⟩ | ⟨a, len', cap', zs, hcs, _, hl, hm, hz, _, hcell, hwz⟩
  · simp [Value.cells] at hcs
    obtain ⟨rfl, rfl, rfl⟩ := hcs
    exact ⟨none, 0, 0, [], rfl, rfl, Nat.zero_le _, Rd.nil _ _ _⟩
  · simp [Value.cells] at hcs
    obtain ⟨rfl, rfl, rfl⟩ := hcs
    simp only [if_true] at hz
    refine ⟨some a, len, cap, (zs.take len).map (fun z => z.toNat.toUInt8), rfl, by rw [List.length_map, List.length_take]; omega, by omega, ?_⟩
    by_cases h0 : len = 0
    · subst h0; exact Or.inl rfl
    · obtain ⟨b, o, spot⟩ := a
      have hspot : spot = none := by simpa [Addr.add] using World.cell?_spot (hcell 0 (by omega))
      subst hspot
      have hb := World.block_lt_of_cell? W _ (hcell 0 (by omega))
      refine Or.inr ⟨b, o, rfl, by simpa [Addr.add] using hb, fun j v hv => ?_⟩
      unfold u8s at hv
      rw [List.map_map, List.getElem?_map] at hv
      cases hz2 : (zs.take len)[j]? with
      | none => rw [hz2] at hv; cases hv
      | some z =>
        rw [hz2] at hv
        injection hv with hv
        subst hv
        obtain ⟨hj, hz3⟩ := List.getElem?_eq_some_iff.1 hz2
        have hj2 : j < zs.length := by rw [List.length_take] at hj; omega
        have hzm : z ∈ zs := List.mem_of_mem_take (List.mem_of_getElem? hz2)
        have hw := hwz z hzm
        have hbd : 0 ≤ z ∧ z ≤ 255 := by
          simp only [Lit.wf, decide_eq_true_eq, Bool.and_eq_true] at hw
          have h1 : IntKind.u8.min = 0 := rfl
          have h2 : IntKind.u8.max = 255 := rfl
          omega
        rw [← add_plain, hcell j hj2]
        rw [List.getElem_take] at hz3
        have e1 : zs.getD j 0 = z := by simp [List.getD_eq_getElem?_getD, List.getElem?_eq_getElem hj2, hz3]
        rw [e1]
        have e2 : ((z.toNat.toUInt8).toNat : Int) = z := by
          rw [Nat.toUInt8, UInt8.toNat_ofNat']
          omega
        show some (Value.int .u8 z) = some (Value.int .u8 ((z.toNat.toUInt8).toNat : Int))
        rw [e2]

end Go.Proofs.YtokncfhpmjohdabGreat.RampFn
namespace Go.Proofs.YtokncfhpmjohdabGreat.Wv
open Go.RowKit Go.Proofs.YtokncfhpmjohdabGreat.Mem Go.Proofs.YtokncfhpmjohdabGreat.Dm Go.Proofs.YtokncfhpmjohdabGreat.Ws Go.Proofs.YtokncfhpmjohdabGreat.Wp Go.Proofs.YtokncfhpmjohdabGreat.Wq Go.Proofs.YtokncfhpmjohdabGreat.Wl Go.Proofs.YtokncfhpmjohdabGreat.Rw

set_option linter.unusedVariables false
set_option linter.unusedSimpArgs false

end Go.Proofs.YtokncfhpmjohdabGreat.Wv
namespace Go.Proofs.YtokncfhpmjohdabGreat.We5
open Go.RowKit Go.Proofs.YtokncfhpmjohdabGreat.Mem Go.Proofs.YtokncfhpmjohdabGreat.Dm Go.Proofs.YtokncfhpmjohdabGreat.Ws Go.Proofs.YtokncfhpmjohdabGreat.Wp Go.Proofs.YtokncfhpmjohdabGreat.Wq Go.Proofs.YtokncfhpmjohdabGreat.Wl Go.Proofs.YtokncfhpmjohdabGreat.Rw
set_option linter.unusedVariables false
set_option linter.unusedSimpArgs false

end Go.Proofs.YtokncfhpmjohdabGreat.We5
namespace Go.Proofs.YtokncfhpmjohdabGreat.Wf5
open Go.RowKit Go.Proofs.YtokncfhpmjohdabGreat.Mem Go.Proofs.YtokncfhpmjohdabGreat.Dm Go.Proofs.YtokncfhpmjohdabGreat.Ws Go.Proofs.YtokncfhpmjohdabGreat.Wp Go.Proofs.YtokncfhpmjohdabGreat.Wq Go.Proofs.YtokncfhpmjohdabGreat.Wl Go.Proofs.YtokncfhpmjohdabGreat.Rw Go.Proofs.YtokncfhpmjohdabGreat.We5
set_option linter.unusedVariables false
set_option linter.unusedSimpArgs false

end Go.Proofs.YtokncfhpmjohdabGreat.Wf5
