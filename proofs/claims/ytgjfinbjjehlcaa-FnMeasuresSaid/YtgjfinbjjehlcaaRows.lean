/-
  No cell of these rows narrows 'for every input' (looked for: loops, veiled, ifaces, maps, wideKeys, modest, calm, conditions, laid).
  DERIVED. THE GIVEN ROWS OF THIS SEAT. 8 by the template 'for every input the law returns true; each argument reads behind the call as it read before'; 0 by the template 'total and deterministic' (their statements: YtgjfinbjjehlcaaTotals.lean).
  GIVEN WITH THE SEED: the statements are not yours to turn. If you find one false, say at which input.
  Laid BY PROGRAM, IN A SANDBOX (cutbox-rows.mjs): the forced cells as the released guide's own fill.sh prints them over the translation 9bb38f06be67fa43… (all of the seat's roots in one cut). By AI agents, Wed Nov 11 2026. No macro, syntax, notation, axiom, sorry.
-/
import Derived.Test.YtgjfinbjjehlcaaChecked
import GoSem.Claim
import GoSem.ClaimJoined
import GoSem.ClaimMapViews
import Derived.JoinedTies
import Derived.KernelRfl
namespace Go.Proofs.Ytgjfinbjjehlcaa
/- THE CELL 'sum', in the pinned program and in every row, IS THE sha256 OF THE DUMP (.gsa) THAT YtgjfinbjjehlcaaProg.lean LOADS. Nothing in Lean hashes anything: it is a label: what it is worth is what the hold of that sum in a sandbox is worth. -/
noncomputable def Try.pinned : Pinned := { name := "ytgjfinbjjehlcaa", sum := "9bb38f06be67fa4382b691b0d295d1b948b4dedcddd0190201f5cc8400faea67", checked := Try.checked }
namespace Rows
def none {H : Type} : Left H := { results := [], args := [] }

/-- 'laws.FnMeasures': WHATEVER THE INPUT: true; the input reads as it did. -/
def fnMeasuresSpec : ChangeSpec := { name := "fnMeasures", fn := fun _ => fun
  | [d] => { results := [.lit (.bool true)], args := [d] }
  | _ => none }
def fnMeasuresRow : OpenClaim := { program := "ytgjfinbjjehlcaa", sum := "9bb38f06be67fa4382b691b0d295d1b948b4dedcddd0190201f5cc8400faea67", func := "loop.example/g03017/laws.FnMeasures", spec := "fnMeasures", apart := false }
def FnMeasuresSaid : Prop := fnMeasuresRow.holds Try.pinned (OpenSpec.ofChange fnMeasuresSpec)

/-- ITS FALSE NEIGHBOUR: 'it returns false'. Refute it at one input. -/
def fnMeasuresWrong : ChangeSpec := { name := "fnMeasures", fn := fun _ => fun
  | [d] => { results := [.lit (.bool false)], args := [d] }
  | _ => none }
def FnMeasuresWrongFalsely : Prop := fnMeasuresRow.holds Try.pinned (OpenSpec.ofChange fnMeasuresWrong)

/-- 'laws.FnRamp': WHATEVER THE INPUT: true; the input reads as it did. -/
def fnRampSpec : ChangeSpec := { name := "fnRamp", fn := fun _ => fun
  | [d] => { results := [.lit (.bool true)], args := [d] }
  | _ => none }
def fnRampRow : OpenClaim := { program := "ytgjfinbjjehlcaa", sum := "9bb38f06be67fa4382b691b0d295d1b948b4dedcddd0190201f5cc8400faea67", func := "loop.example/g03017/laws.FnRamp", spec := "fnRamp", inPlace := ["math.archFloor", "math.Float64bits", "math.Float64frombits", "math.archTrunc"], apart := false }
def FnRampSaid : Prop := fnRampRow.holds Try.pinned (OpenSpec.ofChange fnRampSpec)

/-- ITS FALSE NEIGHBOUR: 'it returns false'. Refute it at one input. -/
def fnRampWrong : ChangeSpec := { name := "fnRamp", fn := fun _ => fun
  | [d] => { results := [.lit (.bool false)], args := [d] }
  | _ => none }
def FnRampWrongFalsely : Prop := fnRampRow.holds Try.pinned (OpenSpec.ofChange fnRampWrong)

/-- 'laws.FnExactIsName': WHATEVER THE INPUT: true; the input reads as it did. -/
def fnExactIsNameSpec : ChangeSpec := { name := "fnExactIsName", fn := fun _ => fun
  | [d] => { results := [.lit (.bool true)], args := [d] }
  | _ => none }
def fnExactIsNameRow : OpenClaim := { program := "ytgjfinbjjehlcaa", sum := "9bb38f06be67fa4382b691b0d295d1b948b4dedcddd0190201f5cc8400faea67", func := "loop.example/g03017/laws.FnExactIsName", spec := "fnExactIsName", apart := false }
def FnExactIsNameSaid : Prop := fnExactIsNameRow.holds Try.pinned (OpenSpec.ofChange fnExactIsNameSpec)

/-- ITS FALSE NEIGHBOUR: 'it returns false'. Refute it at one input. -/
def fnExactIsNameWrong : ChangeSpec := { name := "fnExactIsName", fn := fun _ => fun
  | [d] => { results := [.lit (.bool false)], args := [d] }
  | _ => none }
def FnExactIsNameWrongFalsely : Prop := fnExactIsNameRow.holds Try.pinned (OpenSpec.ofChange fnExactIsNameWrong)

/-- 'laws.FnExactJoinWith': WHATEVER THE INPUT: true; the input reads as it did. -/
def fnExactJoinWithSpec : ChangeSpec := { name := "fnExactJoinWith", fn := fun _ => fun
  | [d1, d2] => { results := [.lit (.bool true)], args := [d1, d2] }
  | _ => none }
def fnExactJoinWithRow : OpenClaim := { program := "ytgjfinbjjehlcaa", sum := "9bb38f06be67fa4382b691b0d295d1b948b4dedcddd0190201f5cc8400faea67", func := "loop.example/g03017/laws.FnExactJoinWith", spec := "fnExactJoinWith", inPlace := ["internal/abi.NoEscape", "internal/bytealg.MakeNoZero"], apart := false }
def FnExactJoinWithSaid : Prop := fnExactJoinWithRow.holds Try.pinned (OpenSpec.ofChange fnExactJoinWithSpec)

/-- ITS FALSE NEIGHBOUR: 'it returns false'. Refute it at one input. -/
def fnExactJoinWithWrong : ChangeSpec := { name := "fnExactJoinWith", fn := fun _ => fun
  | [d1, d2] => { results := [.lit (.bool false)], args := [d1, d2] }
  | _ => none }
def FnExactJoinWithWrongFalsely : Prop := fnExactJoinWithRow.holds Try.pinned (OpenSpec.ofChange fnExactJoinWithWrong)

/-- 'laws.FnExactIsMeasure': WHATEVER THE INPUT: true; the input reads as it did. -/
def fnExactIsMeasureSpec : ChangeSpec := { name := "fnExactIsMeasure", fn := fun _ => fun
  | [d] => { results := [.lit (.bool true)], args := [d] }
  | _ => none }
def fnExactIsMeasureRow : OpenClaim := { program := "ytgjfinbjjehlcaa", sum := "9bb38f06be67fa4382b691b0d295d1b948b4dedcddd0190201f5cc8400faea67", func := "loop.example/g03017/laws.FnExactIsMeasure", spec := "fnExactIsMeasure", apart := false }
def FnExactIsMeasureSaid : Prop := fnExactIsMeasureRow.holds Try.pinned (OpenSpec.ofChange fnExactIsMeasureSpec)

/-- ITS FALSE NEIGHBOUR: 'it returns false'. Refute it at one input. -/
def fnExactIsMeasureWrong : ChangeSpec := { name := "fnExactIsMeasure", fn := fun _ => fun
  | [d] => { results := [.lit (.bool false)], args := [d] }
  | _ => none }
def FnExactIsMeasureWrongFalsely : Prop := fnExactIsMeasureRow.holds Try.pinned (OpenSpec.ofChange fnExactIsMeasureWrong)

/-- 'laws.FnExactSumMeasures': WHATEVER THE INPUT: true; the input reads as it did. -/
def fnExactSumMeasuresSpec : ChangeSpec := { name := "fnExactSumMeasures", fn := fun _ => fun
  | [d] => { results := [.lit (.bool true)], args := [d] }
  | _ => none }
def fnExactSumMeasuresRow : OpenClaim := { program := "ytgjfinbjjehlcaa", sum := "9bb38f06be67fa4382b691b0d295d1b948b4dedcddd0190201f5cc8400faea67", func := "loop.example/g03017/laws.FnExactSumMeasures", spec := "fnExactSumMeasures", apart := false }
def FnExactSumMeasuresSaid : Prop := fnExactSumMeasuresRow.holds Try.pinned (OpenSpec.ofChange fnExactSumMeasuresSpec)

/-- ITS FALSE NEIGHBOUR: 'it returns false'. Refute it at one input. -/
def fnExactSumMeasuresWrong : ChangeSpec := { name := "fnExactSumMeasures", fn := fun _ => fun
  | [d] => { results := [.lit (.bool false)], args := [d] }
  | _ => none }
def FnExactSumMeasuresWrongFalsely : Prop := fnExactSumMeasuresRow.holds Try.pinned (OpenSpec.ofChange fnExactSumMeasuresWrong)

/-- 'laws.FnExactTimesMeasure': WHATEVER THE INPUT: true; the input reads as it did. -/
def fnExactTimesMeasureSpec : ChangeSpec := { name := "fnExactTimesMeasure", fn := fun _ => fun
  | [d1, d2] => { results := [.lit (.bool true)], args := [d1, d2] }
  | _ => none }
def fnExactTimesMeasureRow : OpenClaim := { program := "ytgjfinbjjehlcaa", sum := "9bb38f06be67fa4382b691b0d295d1b948b4dedcddd0190201f5cc8400faea67", func := "loop.example/g03017/laws.FnExactTimesMeasure", spec := "fnExactTimesMeasure", apart := false }
def FnExactTimesMeasureSaid : Prop := fnExactTimesMeasureRow.holds Try.pinned (OpenSpec.ofChange fnExactTimesMeasureSpec)

/-- ITS FALSE NEIGHBOUR: 'it returns false'. Refute it at one input. -/
def fnExactTimesMeasureWrong : ChangeSpec := { name := "fnExactTimesMeasure", fn := fun _ => fun
  | [d1, d2] => { results := [.lit (.bool false)], args := [d1, d2] }
  | _ => none }
def FnExactTimesMeasureWrongFalsely : Prop := fnExactTimesMeasureRow.holds Try.pinned (OpenSpec.ofChange fnExactTimesMeasureWrong)

/-- 'laws.FnExactRampAt': WHATEVER THE INPUT: true; the input reads as it did. -/
def fnExactRampAtSpec : ChangeSpec := { name := "fnExactRampAt", fn := fun _ => fun
  | [d1, d2, d3, d4] => { results := [.lit (.bool true)], args := [d1, d2, d3, d4] }
  | _ => none }
def fnExactRampAtRow : OpenClaim := { program := "ytgjfinbjjehlcaa", sum := "9bb38f06be67fa4382b691b0d295d1b948b4dedcddd0190201f5cc8400faea67", func := "loop.example/g03017/laws.FnExactRampAt", spec := "fnExactRampAt", inPlace := ["math.archFloor", "math.Float64bits", "math.Float64frombits", "math.archTrunc"], apart := false }
def FnExactRampAtSaid : Prop := fnExactRampAtRow.holds Try.pinned (OpenSpec.ofChange fnExactRampAtSpec)

/-- ITS FALSE NEIGHBOUR: 'it returns false'. Refute it at one input. -/
def fnExactRampAtWrong : ChangeSpec := { name := "fnExactRampAt", fn := fun _ => fun
  | [d1, d2, d3, d4] => { results := [.lit (.bool false)], args := [d1, d2, d3, d4] }
  | _ => none }
def FnExactRampAtWrongFalsely : Prop := fnExactRampAtRow.holds Try.pinned (OpenSpec.ofChange fnExactRampAtWrong)

/- THE SECOND FORM. 'bulk': how many values and letters a reading holds, each counted each time it is reached (what is shared counts as often as it is met; a slice's spare places count too). A statement '..UptoSaid' is the law's where the arguments, and the package variables that the reading takes, are together of bulk at most 1048576: NARROWER than '..Said'. Prove '..Said' where nothing that the law and all that it calls make is longer than what came in: it says more and counts as full. Else prove '..UptoSaid'. A law counts once. -/
mutual
def uptoBulk {H : Type} : DataW H → Nat
  | .lit (.string bytes) => bytes.length + 1
  | .lit _ => 1
  | .nil => 1
  | .ptr d => uptoBulk d + 1
  | .slice elems spare => uptoBulkAll elems + uptoBulkAll spare + 1
  | .agg parts => uptoBulkAll parts + 1
  | .iface _ d => uptoBulk d + 1
  | .map entries => uptoBulkEntries entries + 1
  | .held _ => 1
def uptoBulkAll {H : Type} : List (DataW H) → Nat
  | [] => 0
  | d :: r => uptoBulk d + uptoBulkAll r
def uptoBulkEntries {H : Type} : List (Lit × DataW H) → Nat
  | [] => 0
  | x :: r => uptoBulkEntry x + uptoBulkEntries r
def uptoBulkEntry {H : Type} : Lit × DataW H → Nat
  | (.string bytes, d) => bytes.length + uptoBulk d + 1
  | (_, d) => uptoBulk d + 1
 end
def uptoSmall : (H : Type) → List (DataW H) → Bool := fun _ ds => decide (uptoBulkAll ds ≤ 1048576)
def OpenSpec.upto (s : _root_.Go.ChangeSpec) : _root_.Go.OpenSpec := { _root_.Go.OpenSpec.ofChange s with cond := some uptoSmall }

/-- 'laws.FnMeasures', WHERE WHAT IT READS IS OF BULK AT MOST 1048576: true; the input reads as it did. -/
def fnMeasuresUptoRow : OpenClaim := { program := "ytgjfinbjjehlcaa", sum := "9bb38f06be67fa4382b691b0d295d1b948b4dedcddd0190201f5cc8400faea67", func := "loop.example/g03017/laws.FnMeasures", spec := "fnMeasures", apart := false, narrowed := true }
def FnMeasuresUptoSaid : Prop := fnMeasuresUptoRow.holds Try.pinned (OpenSpec.upto fnMeasuresSpec)

/-- 'laws.FnRamp', WHERE WHAT IT READS IS OF BULK AT MOST 1048576: true; the input reads as it did. -/
def fnRampUptoRow : OpenClaim := { program := "ytgjfinbjjehlcaa", sum := "9bb38f06be67fa4382b691b0d295d1b948b4dedcddd0190201f5cc8400faea67", func := "loop.example/g03017/laws.FnRamp", spec := "fnRamp", inPlace := ["math.archFloor", "math.Float64bits", "math.Float64frombits", "math.archTrunc"], apart := false, narrowed := true }
def FnRampUptoSaid : Prop := fnRampUptoRow.holds Try.pinned (OpenSpec.upto fnRampSpec)

/-- 'laws.FnExactIsName', WHERE WHAT IT READS IS OF BULK AT MOST 1048576: true; the input reads as it did. -/
def fnExactIsNameUptoRow : OpenClaim := { program := "ytgjfinbjjehlcaa", sum := "9bb38f06be67fa4382b691b0d295d1b948b4dedcddd0190201f5cc8400faea67", func := "loop.example/g03017/laws.FnExactIsName", spec := "fnExactIsName", apart := false, narrowed := true }
def FnExactIsNameUptoSaid : Prop := fnExactIsNameUptoRow.holds Try.pinned (OpenSpec.upto fnExactIsNameSpec)

/-- 'laws.FnExactJoinWith', WHERE WHAT IT READS IS OF BULK AT MOST 1048576: true; the input reads as it did. -/
def fnExactJoinWithUptoRow : OpenClaim := { program := "ytgjfinbjjehlcaa", sum := "9bb38f06be67fa4382b691b0d295d1b948b4dedcddd0190201f5cc8400faea67", func := "loop.example/g03017/laws.FnExactJoinWith", spec := "fnExactJoinWith", inPlace := ["internal/abi.NoEscape", "internal/bytealg.MakeNoZero"], apart := false, narrowed := true }
def FnExactJoinWithUptoSaid : Prop := fnExactJoinWithUptoRow.holds Try.pinned (OpenSpec.upto fnExactJoinWithSpec)

/-- 'laws.FnExactIsMeasure', WHERE WHAT IT READS IS OF BULK AT MOST 1048576: true; the input reads as it did. -/
def fnExactIsMeasureUptoRow : OpenClaim := { program := "ytgjfinbjjehlcaa", sum := "9bb38f06be67fa4382b691b0d295d1b948b4dedcddd0190201f5cc8400faea67", func := "loop.example/g03017/laws.FnExactIsMeasure", spec := "fnExactIsMeasure", apart := false, narrowed := true }
def FnExactIsMeasureUptoSaid : Prop := fnExactIsMeasureUptoRow.holds Try.pinned (OpenSpec.upto fnExactIsMeasureSpec)

/-- 'laws.FnExactSumMeasures', WHERE WHAT IT READS IS OF BULK AT MOST 1048576: true; the input reads as it did. -/
def fnExactSumMeasuresUptoRow : OpenClaim := { program := "ytgjfinbjjehlcaa", sum := "9bb38f06be67fa4382b691b0d295d1b948b4dedcddd0190201f5cc8400faea67", func := "loop.example/g03017/laws.FnExactSumMeasures", spec := "fnExactSumMeasures", apart := false, narrowed := true }
def FnExactSumMeasuresUptoSaid : Prop := fnExactSumMeasuresUptoRow.holds Try.pinned (OpenSpec.upto fnExactSumMeasuresSpec)

/-- 'laws.FnExactTimesMeasure', WHERE WHAT IT READS IS OF BULK AT MOST 1048576: true; the input reads as it did. -/
def fnExactTimesMeasureUptoRow : OpenClaim := { program := "ytgjfinbjjehlcaa", sum := "9bb38f06be67fa4382b691b0d295d1b948b4dedcddd0190201f5cc8400faea67", func := "loop.example/g03017/laws.FnExactTimesMeasure", spec := "fnExactTimesMeasure", apart := false, narrowed := true }
def FnExactTimesMeasureUptoSaid : Prop := fnExactTimesMeasureUptoRow.holds Try.pinned (OpenSpec.upto fnExactTimesMeasureSpec)

/-- 'laws.FnExactRampAt', WHERE WHAT IT READS IS OF BULK AT MOST 1048576: true; the input reads as it did. -/
def fnExactRampAtUptoRow : OpenClaim := { program := "ytgjfinbjjehlcaa", sum := "9bb38f06be67fa4382b691b0d295d1b948b4dedcddd0190201f5cc8400faea67", func := "loop.example/g03017/laws.FnExactRampAt", spec := "fnExactRampAt", inPlace := ["math.archFloor", "math.Float64bits", "math.Float64frombits", "math.archTrunc"], apart := false, narrowed := true }
def FnExactRampAtUptoSaid : Prop := fnExactRampAtUptoRow.holds Try.pinned (OpenSpec.upto fnExactRampAtSpec)

end Rows
end Go.Proofs.Ytgjfinbjjehlcaa
