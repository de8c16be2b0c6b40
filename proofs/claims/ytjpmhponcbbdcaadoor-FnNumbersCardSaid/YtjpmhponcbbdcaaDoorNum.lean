/- Plain facts on small numbers and their texts. -/
import Derived.Lib.ItoaNum
import Derived.Lib.AtoiAll
namespace Go.Proofs.YtjpmhponcbbdcaaDoor.Num
open Go

/-- What the model reckons of a text's first four bytes. -/
def first4 (l : List UInt8) : Int := (l.take 4).foldl (fun n c => 10 * n + (c.toNat : Int) - 48) 0

/-- The digits of a number below 1000. -/
def dig (n : Nat) : List UInt8 :=
  if n < 10 then [UInt8.ofNat (48 + n)] else if n < 100 then [UInt8.ofNat (48 + n / 10), UInt8.ofNat (48 + n % 10)] else [UInt8.ofNat (48 + n / 100), UInt8.ofNat (48 + n / 10 % 10), UInt8.ofNat (48 + n % 10)]

theorem digits_dig (n : Nat) (h : n < 1000) : Lib.decDigits n = dig n := by
  unfold dig
  by_cases h1 : n < 10
  · rw [if_pos h1, Lib.decDigits, dif_pos h1]
  · rw [if_neg h1, Lib.decDigits, dif_neg h1]
    by_cases h2 : n < 100
    · rw [if_pos h2, Lib.decDigits, dif_pos (by omega)]; rfl
    · rw [if_neg h2, Lib.decDigits, dif_neg (by omega), Lib.decDigits, dif_pos (by omega)]
      rw [show n / 10 / 10 = n / 100 by omega]
      rfl

theorem all : ∀ n : Fin 1000, Lib.atoiAll (dig n.val) = .ok (n.val : Int) ∧ first4 (dig n.val) = (n.val : Int) ∧ (dig n.val).length ≤ 3 := by decide +kernel

theorem key (n : Nat) (h : n ≤ 999) : Lib.atoiAll (Lib.decDigits n) = .ok (n : Int) ∧ first4 (Lib.decDigits n) = n ∧ (Lib.decDigits n).length ≤ 3 := by
  rw [digits_dig n (by omega)]
  exact all ⟨n, by omega⟩
end Go.Proofs.YtjpmhponcbbdcaaDoor.Num
