/- Two lists of the same devices are alike, by the laws' own comparison. -/
import Derived.Test.YtgcheplneolonabDs
import Derived.Test.YtgcheplneolonabDl
import Derived.Test.YtgcheplneolonabPu
import Derived.BigQuiet
namespace Go.Proofs.Ytgcheplneolonab.Rg
open Go.RowKit Go.ChangeShapes Go.WideShapes Go.WideElems Go.Deep Go.Proofs.Ytgcheplneolonab.Mem Go.Proofs.Ytgcheplneolonab.Rw Go.Proofs.Ytgcheplneolonab.Dd Go.Proofs.Ytgcheplneolonab.Dl Go.Proofs.Ytgcheplneolonab.Ds
set_option linter.unusedVariables false
set_option linter.unusedSimpArgs false

theorem neq_same (n : ByteArray) (k : Int) (l : ByteArray) (x y h t m : Int) (w : World) :
    (binOp .neq 28 (va n k l x y h t m) (va n k l x y h t m)).run Try.prog w = .ok (.bool false) w := by
  rw [run_neq_struct]
  have e : (Op.equalIn 10000 28 (va n k l x y h t m) (va n k l x y h t m)).run Try.prog w = .ok true w := by
    go_simp
  rw [e]; rfl
/-- The eight cells of a device of a list. -/
theorem cells8 {W : World} {B : Nat} {b o : Nat} {zs : List D} {A : Option Addr} (h : Rd W B A (dls zs)) (eA : A = some ⟨b, o, none⟩) {j : Nat} {n : ByteArray} {q : Int} {l : ByteArray} {x y hh t m : Int} (hd : zs[j]? = some ⟨n, q, l, x, y, hh, t, m⟩) :
    W.cell? ⟨b, o + j * 8, none⟩ = some (.string n) ∧ W.cell? ⟨b, o + j * 8 + 1, none⟩ = some (.int .i64 q) ∧ W.cell? ⟨b, o + j * 8 + 2, none⟩ = some (.string l) ∧ W.cell? ⟨b, o + j * 8 + 3, none⟩ = some (.int .i64 x) ∧ W.cell? ⟨b, o + j * 8 + 4, none⟩ = some (.int .i64 y) ∧ W.cell? ⟨b, o + j * 8 + 5, none⟩ = some (.int .i64 hh) ∧ W.cell? ⟨b, o + j * 8 + 6, none⟩ = some (.int .i64 t) ∧ W.cell? ⟨b, o + j * 8 + 7, none⟩ = some (.int .i64 m) := by
  obtain ⟨b', o', e, _, hc⟩ := h.get (k := j * 8) (by rw [dls_len]; have := (List.getElem?_eq_some_iff.1 hd).1; omega)
  rw [eA] at e
  injection e with e
  injection e with e1 e2
  subst e1 e2
  obtain ⟨z0, z1, z2, z3, z4, z5, z6, z7⟩ := dls_get hd
  exact ⟨hc _ _ z0, by rw [Nat.add_assoc]; exact hc _ _ z1, by rw [Nat.add_assoc]; exact hc _ _ z2, by rw [Nat.add_assoc]; exact hc _ _ z3, by rw [Nat.add_assoc]; exact hc _ _ z4, by rw [Nat.add_assoc]; exact hc _ _ z5, by rw [Nat.add_assoc]; exact hc _ _ z6, by rw [Nat.add_assoc]; exact hc _ _ z7⟩

set_option maxHeartbeats 4000000 in
set_option maxRecDepth 100000 in
theorem rigsL (g1 o1 c1 g2 o2 c2 n : Nat) (zs : List D) (w : World) (hn : zs.length = n) (hb : n ≤ 1048576) (hr : Rd w w.heap.size (some ⟨g1, o1, none⟩) (dls zs)) (hs : Rd w w.heap.size (some ⟨g2, o2, none⟩) (dls zs)) :
    Calls Try.prog 8 #[.slice (some ⟨g1, o1, none⟩) n c1, .slice (some ⟨g2, o2, none⟩) n c2] w fun e w' => e = .returned (.bool true) ∧ Below w.heap.size w w' := by
  have HR := Lib.hid hr
  have HS := Lib.hid hs
  have HN := Lib.hid hn
  have hnn : ((n : Int) == (n : Int)) = true := by simp
  clear hr hs hn
  go_enter Try.func8, Try.ntmps8
  go_wp2_with fail
  go_loopw [5] (fun i wr => ∃ k m : Nat, k ≤ n ∧ i = .int .i64 k ∧ wr = w.drewN m) (fun i _ => n - (intOf i).toNat)
  case atStart => exact ⟨0, 0, Nat.zero_le _, rfl, rfl⟩
  case round =>
    obtain ⟨k, m9, hk, rfl, rfl⟩ := hrel
    by_cases hlt : k < n
    · obtain ⟨z, hz⟩ : ∃ z, zs[k]? = some z := ⟨_, List.getElem?_eq_getElem (by rw [HN.out]; exact hlt)⟩
      obtain ⟨n2, q, l, x, y, h, t, m⟩ := z
      obtain ⟨a0, a1, a2, a3, a4, a5, a6, a7⟩ := cells8 HR.out rfl hz
      obtain ⟨b0, b1, b2, b3, b4, b5, b6, b7⟩ := cells8 HS.out rfl hz
      have EQ := neq_same n2 q l x y h t m
      have hki : (k : Int) < (n : Int) := by omega
      clear hz
      go_wp2_with fail
      go_quiet (fail)
      go_wp2_with fail
      go_roundw
      case rel => exact ⟨k + 1, _, by omega, by go_num, rfl⟩
      case measure => simp [intOf]; omega
    · obtain rfl : k = n := by omega
      go_wp2_with fail
      go_ret
      exact ⟨rfl, below_drewN (Below.refl _ _) _⟩
end Go.Proofs.Ytgcheplneolonab.Rg
