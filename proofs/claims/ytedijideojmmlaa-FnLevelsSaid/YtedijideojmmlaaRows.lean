/-
  No cell of these rows narrows 'for every input' (looked for: loops, veiled, ifaces, maps, wideKeys, modest, calm, conditions, laid).
  DERIVED. THE GIVEN ROWS OF THIS SEAT. 10 by the template 'for every input the law returns true; each argument reads behind the call as it read before'; 0 by the template 'total and deterministic' (their statements: YtedijideojmmlaaTotals.lean).
  GIVEN WITH THE SEED: the statements are not yours to turn. If you find one false, say at which input.
  Laid BY PROGRAM, IN A SANDBOX (cutbox-rows.mjs): the forced cells as the released guide's own fill.sh prints them over the translation 7f86639f65565297… (all of the seat's roots in one cut). By AI agents, Wed Nov 11 2026. No macro, syntax, notation, axiom, sorry.
-/
import Derived.Test.YtedijideojmmlaaChecked
import GoSem.Claim
import GoSem.ClaimJoined
import GoSem.ClaimMapViews
import Derived.JoinedTies
import Derived.KernelRfl
namespace Go.Proofs.Ytedijideojmmlaa
/- THE CELL 'sum', in the pinned program and in every row, IS THE sha256 OF THE DUMP (.gsa) THAT YtedijideojmmlaaProg.lean LOADS. Nothing in Lean hashes anything: it is a label: what it is worth is what the hold of that sum in a sandbox is worth. -/
noncomputable def Try.pinned : Pinned := { name := "ytedijideojmmlaa", sum := "7f86639f655652973c30a20a03292408d3af22aabbee867c430e58d365906f40", checked := Try.checked }
namespace Rows
def none {H : Type} : Left H := { results := [], args := [] }

/-- 'laws.FnLevels': WHATEVER THE INPUT: true; the input reads as it did. -/
def fnLevelsSpec : ChangeSpec := { name := "fnLevels", fn := fun _ => fun
  | [d] => { results := [.lit (.bool true)], args := [d] }
  | _ => none }
def fnLevelsRow : OpenClaim := { program := "ytedijideojmmlaa", sum := "7f86639f655652973c30a20a03292408d3af22aabbee867c430e58d365906f40", func := "loop.example/g03017/laws.FnLevels", spec := "fnLevels", inPlace := ["math.archFloor", "math.Float64bits", "math.Float64frombits", "math.archTrunc"], apart := false }
def FnLevelsSaid : Prop := fnLevelsRow.holds Try.pinned (OpenSpec.ofChange fnLevelsSpec)

/-- ITS FALSE NEIGHBOUR: 'it returns false'. Refute it at one input. -/
def fnLevelsWrong : ChangeSpec := { name := "fnLevels", fn := fun _ => fun
  | [d] => { results := [.lit (.bool false)], args := [d] }
  | _ => none }
def FnLevelsWrongFalsely : Prop := fnLevelsRow.holds Try.pinned (OpenSpec.ofChange fnLevelsWrong)

/-- 'laws.FnOnly': WHATEVER THE INPUT: true; the input reads as it did. -/
def fnOnlySpec : ChangeSpec := { name := "fnOnly", fn := fun _ => fun
  | [d] => { results := [.lit (.bool true)], args := [d] }
  | _ => none }
def fnOnlyRow : OpenClaim := { program := "ytedijideojmmlaa", sum := "7f86639f655652973c30a20a03292408d3af22aabbee867c430e58d365906f40", func := "loop.example/g03017/laws.FnOnly", spec := "fnOnly", inPlace := ["math.archFloor", "math.Float64bits", "math.Float64frombits", "math.archTrunc"], apart := false }
def FnOnlySaid : Prop := fnOnlyRow.holds Try.pinned (OpenSpec.ofChange fnOnlySpec)

/-- ITS FALSE NEIGHBOUR: 'it returns false'. Refute it at one input. -/
def fnOnlyWrong : ChangeSpec := { name := "fnOnly", fn := fun _ => fun
  | [d] => { results := [.lit (.bool false)], args := [d] }
  | _ => none }
def FnOnlyWrongFalsely : Prop := fnOnlyRow.holds Try.pinned (OpenSpec.ofChange fnOnlyWrong)

/-- 'laws.FnLaterScore': WHATEVER THE INPUT: true; the input reads as it did. -/
def fnLaterScoreSpec : ChangeSpec := { name := "fnLaterScore", fn := fun _ => fun
  | [d] => { results := [.lit (.bool true)], args := [d] }
  | _ => none }
def fnLaterScoreRow : OpenClaim := { program := "ytedijideojmmlaa", sum := "7f86639f655652973c30a20a03292408d3af22aabbee867c430e58d365906f40", func := "loop.example/g03017/laws.FnLaterScore", spec := "fnLaterScore", inPlace := ["math.archFloor", "math.Float64bits", "math.Float64frombits", "math.archTrunc"], apart := false }
def FnLaterScoreSaid : Prop := fnLaterScoreRow.holds Try.pinned (OpenSpec.ofChange fnLaterScoreSpec)

/-- ITS FALSE NEIGHBOUR: 'it returns false'. Refute it at one input. -/
def fnLaterScoreWrong : ChangeSpec := { name := "fnLaterScore", fn := fun _ => fun
  | [d] => { results := [.lit (.bool false)], args := [d] }
  | _ => none }
def FnLaterScoreWrongFalsely : Prop := fnLaterScoreRow.holds Try.pinned (OpenSpec.ofChange fnLaterScoreWrong)

/-- 'laws.FnEnd': WHATEVER THE INPUT: true; the input reads as it did. -/
def fnEndSpec : ChangeSpec := { name := "fnEnd", fn := fun _ => fun
  | [d] => { results := [.lit (.bool true)], args := [d] }
  | _ => none }
def fnEndRow : OpenClaim := { program := "ytedijideojmmlaa", sum := "7f86639f655652973c30a20a03292408d3af22aabbee867c430e58d365906f40", func := "loop.example/g03017/laws.FnEnd", spec := "fnEnd", inPlace := ["math.archFloor", "math.Float64bits", "math.Float64frombits", "math.archTrunc"], apart := false }
def FnEndSaid : Prop := fnEndRow.holds Try.pinned (OpenSpec.ofChange fnEndSpec)

/-- ITS FALSE NEIGHBOUR: 'it returns false'. Refute it at one input. -/
def fnEndWrong : ChangeSpec := { name := "fnEnd", fn := fun _ => fun
  | [d] => { results := [.lit (.bool false)], args := [d] }
  | _ => none }
def FnEndWrongFalsely : Prop := fnEndRow.holds Try.pinned (OpenSpec.ofChange fnEndWrong)

/-- 'laws.FnExactIsCue': WHATEVER THE INPUT: true; the input reads as it did. -/
def fnExactIsCueSpec : ChangeSpec := { name := "fnExactIsCue", fn := fun _ => fun
  | [d] => { results := [.lit (.bool true)], args := [d] }
  | _ => none }
def fnExactIsCueRow : OpenClaim := { program := "ytedijideojmmlaa", sum := "7f86639f655652973c30a20a03292408d3af22aabbee867c430e58d365906f40", func := "loop.example/g03017/laws.FnExactIsCue", spec := "fnExactIsCue", apart := false }
def FnExactIsCueSaid : Prop := fnExactIsCueRow.holds Try.pinned (OpenSpec.ofChange fnExactIsCueSpec)

/-- ITS FALSE NEIGHBOUR: 'it returns false'. Refute it at one input. -/
def fnExactIsCueWrong : ChangeSpec := { name := "fnExactIsCue", fn := fun _ => fun
  | [d] => { results := [.lit (.bool false)], args := [d] }
  | _ => none }
def FnExactIsCueWrongFalsely : Prop := fnExactIsCueRow.holds Try.pinned (OpenSpec.ofChange fnExactIsCueWrong)

/-- 'laws.FnExactIsScore': WHATEVER THE INPUT: true; the input reads as it did. -/
def fnExactIsScoreSpec : ChangeSpec := { name := "fnExactIsScore", fn := fun _ => fun
  | [d] => { results := [.lit (.bool true)], args := [d] }
  | _ => none }
def fnExactIsScoreRow : OpenClaim := { program := "ytedijideojmmlaa", sum := "7f86639f655652973c30a20a03292408d3af22aabbee867c430e58d365906f40", func := "loop.example/g03017/laws.FnExactIsScore", spec := "fnExactIsScore", apart := false }
def FnExactIsScoreSaid : Prop := fnExactIsScoreRow.holds Try.pinned (OpenSpec.ofChange fnExactIsScoreSpec)

/-- ITS FALSE NEIGHBOUR: 'it returns false'. Refute it at one input. -/
def fnExactIsScoreWrong : ChangeSpec := { name := "fnExactIsScore", fn := fun _ => fun
  | [d] => { results := [.lit (.bool false)], args := [d] }
  | _ => none }
def FnExactIsScoreWrongFalsely : Prop := fnExactIsScoreRow.holds Try.pinned (OpenSpec.ofChange fnExactIsScoreWrong)

/-- 'laws.FnExactOnlyNames': WHATEVER THE INPUT: true; the input reads as it did. -/
def fnExactOnlyNamesSpec : ChangeSpec := { name := "fnExactOnlyNames", fn := fun _ => fun
  | [d1, d2] => { results := [.lit (.bool true)], args := [d1, d2] }
  | _ => none }
def fnExactOnlyNamesRow : OpenClaim := { program := "ytedijideojmmlaa", sum := "7f86639f655652973c30a20a03292408d3af22aabbee867c430e58d365906f40", func := "loop.example/g03017/laws.FnExactOnlyNames", spec := "fnExactOnlyNames", apart := false }
def FnExactOnlyNamesSaid : Prop := fnExactOnlyNamesRow.holds Try.pinned (OpenSpec.ofChange fnExactOnlyNamesSpec)

/-- ITS FALSE NEIGHBOUR: 'it returns false'. Refute it at one input. -/
def fnExactOnlyNamesWrong : ChangeSpec := { name := "fnExactOnlyNames", fn := fun _ => fun
  | [d1, d2] => { results := [.lit (.bool false)], args := [d1, d2] }
  | _ => none }
def FnExactOnlyNamesWrongFalsely : Prop := fnExactOnlyNamesRow.holds Try.pinned (OpenSpec.ofChange fnExactOnlyNamesWrong)

/-- 'laws.FnExactLevelAt': WHATEVER THE INPUT: true; the input reads as it did. -/
def fnExactLevelAtSpec : ChangeSpec := { name := "fnExactLevelAt", fn := fun _ => fun
  | [d1, d2, d3] => { results := [.lit (.bool true)], args := [d1, d2, d3] }
  | _ => none }
def fnExactLevelAtRow : OpenClaim := { program := "ytedijideojmmlaa", sum := "7f86639f655652973c30a20a03292408d3af22aabbee867c430e58d365906f40", func := "loop.example/g03017/laws.FnExactLevelAt", spec := "fnExactLevelAt", inPlace := ["math.archFloor", "math.Float64bits", "math.Float64frombits", "math.archTrunc"], apart := false }
def FnExactLevelAtSaid : Prop := fnExactLevelAtRow.holds Try.pinned (OpenSpec.ofChange fnExactLevelAtSpec)

/-- ITS FALSE NEIGHBOUR: 'it returns false'. Refute it at one input. -/
def fnExactLevelAtWrong : ChangeSpec := { name := "fnExactLevelAt", fn := fun _ => fun
  | [d1, d2, d3] => { results := [.lit (.bool false)], args := [d1, d2, d3] }
  | _ => none }
def FnExactLevelAtWrongFalsely : Prop := fnExactLevelAtRow.holds Try.pinned (OpenSpec.ofChange fnExactLevelAtWrong)

/-- 'laws.FnExactLaterScore': WHATEVER THE INPUT: true; the input reads as it did. -/
def fnExactLaterScoreSpec : ChangeSpec := { name := "fnExactLaterScore", fn := fun _ => fun
  | [d1, d2] => { results := [.lit (.bool true)], args := [d1, d2] }
  | _ => none }
def fnExactLaterScoreRow : OpenClaim := { program := "ytedijideojmmlaa", sum := "7f86639f655652973c30a20a03292408d3af22aabbee867c430e58d365906f40", func := "loop.example/g03017/laws.FnExactLaterScore", spec := "fnExactLaterScore", apart := false }
def FnExactLaterScoreSaid : Prop := fnExactLaterScoreRow.holds Try.pinned (OpenSpec.ofChange fnExactLaterScoreSpec)

/-- ITS FALSE NEIGHBOUR: 'it returns false'. Refute it at one input. -/
def fnExactLaterScoreWrong : ChangeSpec := { name := "fnExactLaterScore", fn := fun _ => fun
  | [d1, d2] => { results := [.lit (.bool false)], args := [d1, d2] }
  | _ => none }
def FnExactLaterScoreWrongFalsely : Prop := fnExactLaterScoreRow.holds Try.pinned (OpenSpec.ofChange fnExactLaterScoreWrong)

/-- 'laws.FnExactEndOf': WHATEVER THE INPUT: true; the input reads as it did. -/
def fnExactEndOfSpec : ChangeSpec := { name := "fnExactEndOf", fn := fun _ => fun
  | [d] => { results := [.lit (.bool true)], args := [d] }
  | _ => none }
def fnExactEndOfRow : OpenClaim := { program := "ytedijideojmmlaa", sum := "7f86639f655652973c30a20a03292408d3af22aabbee867c430e58d365906f40", func := "loop.example/g03017/laws.FnExactEndOf", spec := "fnExactEndOf", apart := false }
def FnExactEndOfSaid : Prop := fnExactEndOfRow.holds Try.pinned (OpenSpec.ofChange fnExactEndOfSpec)

/-- ITS FALSE NEIGHBOUR: 'it returns false'. Refute it at one input. -/
def fnExactEndOfWrong : ChangeSpec := { name := "fnExactEndOf", fn := fun _ => fun
  | [d] => { results := [.lit (.bool false)], args := [d] }
  | _ => none }
def FnExactEndOfWrongFalsely : Prop := fnExactEndOfRow.holds Try.pinned (OpenSpec.ofChange fnExactEndOfWrong)

/- THE SECOND FORM. 'bulk': how many values and letters a reading holds, each counted each time it is reached (what is shared counts as often as it is met; a slice's spare places count too). A statement '..UptoSaid' is the law's where the arguments, and the package variables that the reading takes, are together of bulk at most 1048576: NARROWER than '..Said'. Prove '..Said' where nothing that the law and all that it calls make is longer than what came in: it says more and counts as full. Else prove '..UptoSaid'. A law counts once. -/
mutual
def uptoBulk {H : Type} : DataW H → Nat
  | .lit (.string bytes) => bytes.length + 1
  | .lit _ => 1
  | .nil => 1
  | .ptr d => uptoBulk d + 1
  | .slice elems spare => uptoBulkAll elems + uptoBulkAll spare + 1
  | .agg parts => uptoBulkAll parts + 1
  | .iface _ d => uptoBulk d + 1
  | .map entries => uptoBulkEntries entries + 1
  | .held _ => 1
def uptoBulkAll {H : Type} : List (DataW H) → Nat
  | [] => 0
  | d :: r => uptoBulk d + uptoBulkAll r
def uptoBulkEntries {H : Type} : List (Lit × DataW H) → Nat
  | [] => 0
  | x :: r => uptoBulkEntry x + uptoBulkEntries r
def uptoBulkEntry {H : Type} : Lit × DataW H → Nat
  | (.string bytes, d) => bytes.length + uptoBulk d + 1
  | (_, d) => uptoBulk d + 1
 end
def uptoSmall : (H : Type) → List (DataW H) → Bool := fun _ ds => decide (uptoBulkAll ds ≤ 1048576)
def OpenSpec.upto (s : _root_.Go.ChangeSpec) : _root_.Go.OpenSpec := { _root_.Go.OpenSpec.ofChange s with cond := some uptoSmall }

/-- 'laws.FnLevels', WHERE WHAT IT READS IS OF BULK AT MOST 1048576: true; the input reads as it did. -/
def fnLevelsUptoRow : OpenClaim := { program := "ytedijideojmmlaa", sum := "7f86639f655652973c30a20a03292408d3af22aabbee867c430e58d365906f40", func := "loop.example/g03017/laws.FnLevels", spec := "fnLevels", inPlace := ["math.archFloor", "math.Float64bits", "math.Float64frombits", "math.archTrunc"], apart := false, narrowed := true }
def FnLevelsUptoSaid : Prop := fnLevelsUptoRow.holds Try.pinned (OpenSpec.upto fnLevelsSpec)

/-- 'laws.FnOnly', WHERE WHAT IT READS IS OF BULK AT MOST 1048576: true; the input reads as it did. -/
def fnOnlyUptoRow : OpenClaim := { program := "ytedijideojmmlaa", sum := "7f86639f655652973c30a20a03292408d3af22aabbee867c430e58d365906f40", func := "loop.example/g03017/laws.FnOnly", spec := "fnOnly", inPlace := ["math.archFloor", "math.Float64bits", "math.Float64frombits", "math.archTrunc"], apart := false, narrowed := true }
def FnOnlyUptoSaid : Prop := fnOnlyUptoRow.holds Try.pinned (OpenSpec.upto fnOnlySpec)

/-- 'laws.FnLaterScore', WHERE WHAT IT READS IS OF BULK AT MOST 1048576: true; the input reads as it did. -/
def fnLaterScoreUptoRow : OpenClaim := { program := "ytedijideojmmlaa", sum := "7f86639f655652973c30a20a03292408d3af22aabbee867c430e58d365906f40", func := "loop.example/g03017/laws.FnLaterScore", spec := "fnLaterScore", inPlace := ["math.archFloor", "math.Float64bits", "math.Float64frombits", "math.archTrunc"], apart := false, narrowed := true }
def FnLaterScoreUptoSaid : Prop := fnLaterScoreUptoRow.holds Try.pinned (OpenSpec.upto fnLaterScoreSpec)

/-- 'laws.FnEnd', WHERE WHAT IT READS IS OF BULK AT MOST 1048576: true; the input reads as it did. -/
def fnEndUptoRow : OpenClaim := { program := "ytedijideojmmlaa", sum := "7f86639f655652973c30a20a03292408d3af22aabbee867c430e58d365906f40", func := "loop.example/g03017/laws.FnEnd", spec := "fnEnd", inPlace := ["math.archFloor", "math.Float64bits", "math.Float64frombits", "math.archTrunc"], apart := false, narrowed := true }
def FnEndUptoSaid : Prop := fnEndUptoRow.holds Try.pinned (OpenSpec.upto fnEndSpec)

/-- 'laws.FnExactIsCue', WHERE WHAT IT READS IS OF BULK AT MOST 1048576: true; the input reads as it did. -/
def fnExactIsCueUptoRow : OpenClaim := { program := "ytedijideojmmlaa", sum := "7f86639f655652973c30a20a03292408d3af22aabbee867c430e58d365906f40", func := "loop.example/g03017/laws.FnExactIsCue", spec := "fnExactIsCue", apart := false, narrowed := true }
def FnExactIsCueUptoSaid : Prop := fnExactIsCueUptoRow.holds Try.pinned (OpenSpec.upto fnExactIsCueSpec)

/-- 'laws.FnExactIsScore', WHERE WHAT IT READS IS OF BULK AT MOST 1048576: true; the input reads as it did. -/
def fnExactIsScoreUptoRow : OpenClaim := { program := "ytedijideojmmlaa", sum := "7f86639f655652973c30a20a03292408d3af22aabbee867c430e58d365906f40", func := "loop.example/g03017/laws.FnExactIsScore", spec := "fnExactIsScore", apart := false, narrowed := true }
def FnExactIsScoreUptoSaid : Prop := fnExactIsScoreUptoRow.holds Try.pinned (OpenSpec.upto fnExactIsScoreSpec)

/-- 'laws.FnExactOnlyNames', WHERE WHAT IT READS IS OF BULK AT MOST 1048576: true; the input reads as it did. -/
def fnExactOnlyNamesUptoRow : OpenClaim := { program := "ytedijideojmmlaa", sum := "7f86639f655652973c30a20a03292408d3af22aabbee867c430e58d365906f40", func := "loop.example/g03017/laws.FnExactOnlyNames", spec := "fnExactOnlyNames", apart := false, narrowed := true }
def FnExactOnlyNamesUptoSaid : Prop := fnExactOnlyNamesUptoRow.holds Try.pinned (OpenSpec.upto fnExactOnlyNamesSpec)

/-- 'laws.FnExactLevelAt', WHERE WHAT IT READS IS OF BULK AT MOST 1048576: true; the input reads as it did. -/
def fnExactLevelAtUptoRow : OpenClaim := { program := "ytedijideojmmlaa", sum := "7f86639f655652973c30a20a03292408d3af22aabbee867c430e58d365906f40", func := "loop.example/g03017/laws.FnExactLevelAt", spec := "fnExactLevelAt", inPlace := ["math.archFloor", "math.Float64bits", "math.Float64frombits", "math.archTrunc"], apart := false, narrowed := true }
def FnExactLevelAtUptoSaid : Prop := fnExactLevelAtUptoRow.holds Try.pinned (OpenSpec.upto fnExactLevelAtSpec)

/-- 'laws.FnExactLaterScore', WHERE WHAT IT READS IS OF BULK AT MOST 1048576: true; the input reads as it did. -/
def fnExactLaterScoreUptoRow : OpenClaim := { program := "ytedijideojmmlaa", sum := "7f86639f655652973c30a20a03292408d3af22aabbee867c430e58d365906f40", func := "loop.example/g03017/laws.FnExactLaterScore", spec := "fnExactLaterScore", apart := false, narrowed := true }
def FnExactLaterScoreUptoSaid : Prop := fnExactLaterScoreUptoRow.holds Try.pinned (OpenSpec.upto fnExactLaterScoreSpec)

/-- 'laws.FnExactEndOf', WHERE WHAT IT READS IS OF BULK AT MOST 1048576: true; the input reads as it did. -/
def fnExactEndOfUptoRow : OpenClaim := { program := "ytedijideojmmlaa", sum := "7f86639f655652973c30a20a03292408d3af22aabbee867c430e58d365906f40", func := "loop.example/g03017/laws.FnExactEndOf", spec := "fnExactEndOf", apart := false, narrowed := true }
def FnExactEndOfUptoSaid : Prop := fnExactEndOfUptoRow.holds Try.pinned (OpenSpec.upto fnExactEndOfSpec)

end Rows
end Go.Proofs.Ytedijideojmmlaa
