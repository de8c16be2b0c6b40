/-
  No cell of these rows narrows 'for every input' (looked for: loops, veiled, ifaces, maps, wideKeys, modest, calm, conditions, laid).
  DERIVED. THE GIVEN ROWS OF THIS SEAT. 4 by the template 'for every input the law returns true; each argument reads behind the call as it read before'; 0 by the template 'total and deterministic' (their statements: YtokncfhpmjohdabGreatTotals.lean).
  GIVEN WITH THE SEED: the statements are not yours to turn. If you find one false, say at which input.
  Laid BY PROGRAM, IN A SANDBOX (cutbox-rows.mjs): the forced cells as the released guide's own fill.sh prints them over the translation 0e4e42187da99f02… (all of the seat's roots in one cut). By AI agents, Wed Nov 11 2026. No macro, syntax, notation, axiom, sorry.
-/
import Derived.Test.YtokncfhpmjohdabGreatChecked
import GoSem.Claim
import GoSem.ClaimJoined
import GoSem.ClaimMapViews
import Derived.JoinedTies
import Derived.KernelRfl
namespace Go.Proofs.YtokncfhpmjohdabGreat
/- THE CELL 'sum', in the pinned program and in every row, IS THE sha256 OF THE DUMP (.gsa) THAT YtokncfhpmjohdabGreatProg.lean LOADS. Nothing in Lean hashes anything: it is a label: what it is worth is what the hold of that sum in a sandbox is worth. -/
noncomputable def Tryz.pinned : Pinned := { name := "ytokncfhpmjohdabgreat", sum := "0e4e42187da99f024c9cb510d31131f90d68b1117109a517c3662ea3e814c0ee", checked := Tryz.checked }
namespace Rows
def none {H : Type} : Left H := { results := [], args := [] }

/-- 'laws.FnLifts': WHATEVER THE INPUT: true; the input reads as it did. -/
def fnLiftsSpec : ChangeSpec := { name := "fnLifts", fn := fun _ => fun
  | [d] => { results := [.lit (.bool true)], args := [d] }
  | _ => none }
def fnLiftsRow : OpenClaim := { program := "ytokncfhpmjohdabgreat", sum := "0e4e42187da99f024c9cb510d31131f90d68b1117109a517c3662ea3e814c0ee", func := "loop.example/g03017/laws.FnLifts", spec := "fnLifts", inPlace := ["math.archFloor", "math.Float64bits", "math.Float64frombits", "math.archTrunc"], unfollowed := true, recurses := true, apart := false }
def FnLiftsSaid : Prop := fnLiftsRow.holds Tryz.pinned (OpenSpec.ofChange fnLiftsSpec)

/-- ITS FALSE NEIGHBOUR: 'it returns false'. Refute it at one input. -/
def fnLiftsWrong : ChangeSpec := { name := "fnLifts", fn := fun _ => fun
  | [d] => { results := [.lit (.bool false)], args := [d] }
  | _ => none }
def FnLiftsWrongFalsely : Prop := fnLiftsRow.holds Tryz.pinned (OpenSpec.ofChange fnLiftsWrong)

/-- 'laws.FnWater': WHATEVER THE INPUT: true; the input reads as it did. -/
def fnWaterSpec : ChangeSpec := { name := "fnWater", fn := fun _ => fun
  | [d] => { results := [.lit (.bool true)], args := [d] }
  | _ => none }
def fnWaterRow : OpenClaim := { program := "ytokncfhpmjohdabgreat", sum := "0e4e42187da99f024c9cb510d31131f90d68b1117109a517c3662ea3e814c0ee", func := "loop.example/g03017/laws.FnWater", spec := "fnWater", inPlace := ["math.archFloor", "math.Float64bits", "math.Float64frombits", "math.archTrunc"], unfollowed := true, recurses := true, apart := false }
def FnWaterSaid : Prop := fnWaterRow.holds Tryz.pinned (OpenSpec.ofChange fnWaterSpec)

/-- ITS FALSE NEIGHBOUR: 'it returns false'. Refute it at one input. -/
def fnWaterWrong : ChangeSpec := { name := "fnWater", fn := fun _ => fun
  | [d] => { results := [.lit (.bool false)], args := [d] }
  | _ => none }
def FnWaterWrongFalsely : Prop := fnWaterRow.holds Tryz.pinned (OpenSpec.ofChange fnWaterWrong)

/-- 'laws.FnHigh': WHATEVER THE INPUT: true; the input reads as it did. -/
def fnHighSpec : ChangeSpec := { name := "fnHigh", fn := fun _ => fun
  | [d] => { results := [.lit (.bool true)], args := [d] }
  | _ => none }
def fnHighRow : OpenClaim := { program := "ytokncfhpmjohdabgreat", sum := "0e4e42187da99f024c9cb510d31131f90d68b1117109a517c3662ea3e814c0ee", func := "loop.example/g03017/laws.FnHigh", spec := "fnHigh", inPlace := ["math.archFloor", "math.Float64bits", "math.Float64frombits", "math.archTrunc"], unfollowed := true, recurses := true, apart := false }
def FnHighSaid : Prop := fnHighRow.holds Tryz.pinned (OpenSpec.ofChange fnHighSpec)

/-- ITS FALSE NEIGHBOUR: 'it returns false'. Refute it at one input. -/
def fnHighWrong : ChangeSpec := { name := "fnHigh", fn := fun _ => fun
  | [d] => { results := [.lit (.bool false)], args := [d] }
  | _ => none }
def FnHighWrongFalsely : Prop := fnHighRow.holds Tryz.pinned (OpenSpec.ofChange fnHighWrong)

/-- 'laws.FnAllDrops': WHATEVER THE INPUT: true; the input reads as it did. -/
def fnAllDropsSpec : ChangeSpec := { name := "fnAllDrops", fn := fun _ => fun
  | [d] => { results := [.lit (.bool true)], args := [d] }
  | _ => none }
def fnAllDropsRow : OpenClaim := { program := "ytokncfhpmjohdabgreat", sum := "0e4e42187da99f024c9cb510d31131f90d68b1117109a517c3662ea3e814c0ee", func := "loop.example/g03017/laws.FnAllDrops", spec := "fnAllDrops", inPlace := ["math.archFloor", "math.Float64bits", "math.Float64frombits", "math.archTrunc"], unfollowed := true, recurses := true, apart := false }
def FnAllDropsSaid : Prop := fnAllDropsRow.holds Tryz.pinned (OpenSpec.ofChange fnAllDropsSpec)

/-- ITS FALSE NEIGHBOUR: 'it returns false'. Refute it at one input. -/
def fnAllDropsWrong : ChangeSpec := { name := "fnAllDrops", fn := fun _ => fun
  | [d] => { results := [.lit (.bool false)], args := [d] }
  | _ => none }
def FnAllDropsWrongFalsely : Prop := fnAllDropsRow.holds Tryz.pinned (OpenSpec.ofChange fnAllDropsWrong)

/- THE SECOND FORM. 'bulk': how many values and letters a reading holds, each counted each time it is reached (what is shared counts as often as it is met; a slice's spare places count too). A statement '..UptoSaid' is the law's where the arguments, and the package variables that the reading takes, are together of bulk at most 1048576: NARROWER than '..Said'. Prove '..Said' where nothing that the law and all that it calls make is longer than what came in: it says more and counts as full. Else prove '..UptoSaid'. A law counts once. -/
mutual
def uptoBulk {H : Type} : DataW H → Nat
  | .lit (.string bytes) => bytes.length + 1
  | .lit _ => 1
  | .nil => 1
  | .ptr d => uptoBulk d + 1
  | .slice elems spare => uptoBulkAll elems + uptoBulkAll spare + 1
  | .agg parts => uptoBulkAll parts + 1
  | .iface _ d => uptoBulk d + 1
  | .map entries => uptoBulkEntries entries + 1
  | .held _ => 1
def uptoBulkAll {H : Type} : List (DataW H) → Nat
  | [] => 0
  | d :: r => uptoBulk d + uptoBulkAll r
def uptoBulkEntries {H : Type} : List (Lit × DataW H) → Nat
  | [] => 0
  | x :: r => uptoBulkEntry x + uptoBulkEntries r
def uptoBulkEntry {H : Type} : Lit × DataW H → Nat
  | (.string bytes, d) => bytes.length + uptoBulk d + 1
  | (_, d) => uptoBulk d + 1
 end
def uptoSmall : (H : Type) → List (DataW H) → Bool := fun _ ds => decide (uptoBulkAll ds ≤ 1048576)
def OpenSpec.upto (s : _root_.Go.ChangeSpec) : _root_.Go.OpenSpec := { _root_.Go.OpenSpec.ofChange s with cond := some uptoSmall }

/-- 'laws.FnLifts', WHERE WHAT IT READS IS OF BULK AT MOST 1048576: true; the input reads as it did. -/
def fnLiftsUptoRow : OpenClaim := { program := "ytokncfhpmjohdabgreat", sum := "0e4e42187da99f024c9cb510d31131f90d68b1117109a517c3662ea3e814c0ee", func := "loop.example/g03017/laws.FnLifts", spec := "fnLifts", inPlace := ["math.archFloor", "math.Float64bits", "math.Float64frombits", "math.archTrunc"], unfollowed := true, recurses := true, apart := false, narrowed := true }
def FnLiftsUptoSaid : Prop := fnLiftsUptoRow.holds Tryz.pinned (OpenSpec.upto fnLiftsSpec)

/-- 'laws.FnWater', WHERE WHAT IT READS IS OF BULK AT MOST 1048576: true; the input reads as it did. -/
def fnWaterUptoRow : OpenClaim := { program := "ytokncfhpmjohdabgreat", sum := "0e4e42187da99f024c9cb510d31131f90d68b1117109a517c3662ea3e814c0ee", func := "loop.example/g03017/laws.FnWater", spec := "fnWater", inPlace := ["math.archFloor", "math.Float64bits", "math.Float64frombits", "math.archTrunc"], unfollowed := true, recurses := true, apart := false, narrowed := true }
def FnWaterUptoSaid : Prop := fnWaterUptoRow.holds Tryz.pinned (OpenSpec.upto fnWaterSpec)

/-- 'laws.FnHigh', WHERE WHAT IT READS IS OF BULK AT MOST 1048576: true; the input reads as it did. -/
def fnHighUptoRow : OpenClaim := { program := "ytokncfhpmjohdabgreat", sum := "0e4e42187da99f024c9cb510d31131f90d68b1117109a517c3662ea3e814c0ee", func := "loop.example/g03017/laws.FnHigh", spec := "fnHigh", inPlace := ["math.archFloor", "math.Float64bits", "math.Float64frombits", "math.archTrunc"], unfollowed := true, recurses := true, apart := false, narrowed := true }
def FnHighUptoSaid : Prop := fnHighUptoRow.holds Tryz.pinned (OpenSpec.upto fnHighSpec)

/-- 'laws.FnAllDrops', WHERE WHAT IT READS IS OF BULK AT MOST 1048576: true; the input reads as it did. -/
def fnAllDropsUptoRow : OpenClaim := { program := "ytokncfhpmjohdabgreat", sum := "0e4e42187da99f024c9cb510d31131f90d68b1117109a517c3662ea3e814c0ee", func := "loop.example/g03017/laws.FnAllDrops", spec := "fnAllDrops", inPlace := ["math.archFloor", "math.Float64bits", "math.Float64frombits", "math.archTrunc"], unfollowed := true, recurses := true, apart := false, narrowed := true }
def FnAllDropsUptoSaid : Prop := fnAllDropsUptoRow.holds Tryz.pinned (OpenSpec.upto fnAllDropsSpec)

end Rows
end Go.Proofs.YtokncfhpmjohdabGreat
