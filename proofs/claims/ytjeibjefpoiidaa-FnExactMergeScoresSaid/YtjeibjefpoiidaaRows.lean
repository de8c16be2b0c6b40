/-
  No cell of these rows narrows 'for every input' (looked for: loops, veiled, ifaces, maps, wideKeys, modest, calm, conditions, laid).
  DERIVED. THE GIVEN ROWS OF THIS SEAT. 6 by the template 'for every input the law returns true; each argument reads behind the call as it read before'; 0 by the template 'total and deterministic' (their statements: YtjeibjefpoiidaaTotals.lean).
  GIVEN WITH THE SEED: the statements are not yours to turn. If you find one false, say at which input.
  Laid BY PROGRAM, IN A SANDBOX (cutbox-rows.mjs): the forced cells as the released guide's own fill.sh prints them over the translation 71f7a97dfeb570c9… (all of the seat's roots in one cut). By AI agents, Wed Nov 11 2026. No macro, syntax, notation, axiom, sorry.
-/
import Derived.Test.YtjeibjefpoiidaaChecked
import GoSem.Claim
import GoSem.ClaimJoined
import GoSem.ClaimMapViews
import Derived.JoinedTies
import Derived.KernelRfl
namespace Go.Proofs.Ytjeibjefpoiidaa
/- THE CELL 'sum', in the pinned program and in every row, IS THE sha256 OF THE DUMP (.gsa) THAT YtjeibjefpoiidaaProg.lean LOADS. Nothing in Lean hashes anything: it is a label: what it is worth is what the hold of that sum in a sandbox is worth. -/
noncomputable def Try.pinned : Pinned := { name := "ytjeibjefpoiidaa", sum := "71f7a97dfeb570c962f3ed57057808e63a218613e2445cc6bb65bd0bcbc83884", checked := Try.checked }
namespace Rows
def none {H : Type} : Left H := { results := [], args := [] }

/-- 'laws.FnExactAddCue': WHATEVER THE INPUT: true; the input reads as it did. -/
def fnExactAddCueSpec : ChangeSpec := { name := "fnExactAddCue", fn := fun _ => fun
  | [d1, d2] => { results := [.lit (.bool true)], args := [d1, d2] }
  | _ => none }
def fnExactAddCueRow : OpenClaim := { program := "ytjeibjefpoiidaa", sum := "71f7a97dfeb570c962f3ed57057808e63a218613e2445cc6bb65bd0bcbc83884", func := "loop.example/g03017/laws.FnExactAddCue", spec := "fnExactAddCue", unfollowed := true, recurses := true, apart := false }
def FnExactAddCueSaid : Prop := fnExactAddCueRow.holds Try.pinned (OpenSpec.ofChange fnExactAddCueSpec)

/-- ITS FALSE NEIGHBOUR: 'it returns false'. Refute it at one input. -/
def fnExactAddCueWrong : ChangeSpec := { name := "fnExactAddCue", fn := fun _ => fun
  | [d1, d2] => { results := [.lit (.bool false)], args := [d1, d2] }
  | _ => none }
def FnExactAddCueWrongFalsely : Prop := fnExactAddCueRow.holds Try.pinned (OpenSpec.ofChange fnExactAddCueWrong)

/-- 'laws.FnExactMergeScores': WHATEVER THE INPUT: true; the input reads as it did. -/
def fnExactMergeScoresSpec : ChangeSpec := { name := "fnExactMergeScores", fn := fun _ => fun
  | [d1, d2] => { results := [.lit (.bool true)], args := [d1, d2] }
  | _ => none }
def fnExactMergeScoresRow : OpenClaim := { program := "ytjeibjefpoiidaa", sum := "71f7a97dfeb570c962f3ed57057808e63a218613e2445cc6bb65bd0bcbc83884", func := "loop.example/g03017/laws.FnExactMergeScores", spec := "fnExactMergeScores", unfollowed := true, recurses := true, apart := false }
def FnExactMergeScoresSaid : Prop := fnExactMergeScoresRow.holds Try.pinned (OpenSpec.ofChange fnExactMergeScoresSpec)

/-- ITS FALSE NEIGHBOUR: 'it returns false'. Refute it at one input. -/
def fnExactMergeScoresWrong : ChangeSpec := { name := "fnExactMergeScores", fn := fun _ => fun
  | [d1, d2] => { results := [.lit (.bool false)], args := [d1, d2] }
  | _ => none }
def FnExactMergeScoresWrongFalsely : Prop := fnExactMergeScoresRow.holds Try.pinned (OpenSpec.ofChange fnExactMergeScoresWrong)

/-- 'laws.FnCues': WHATEVER THE INPUT: true; the input reads as it did. -/
def fnCuesSpec : ChangeSpec := { name := "fnCues", fn := fun _ => fun
  | [d] => { results := [.lit (.bool true)], args := [d] }
  | _ => none }
def fnCuesRow : OpenClaim := { program := "ytjeibjefpoiidaa", sum := "71f7a97dfeb570c962f3ed57057808e63a218613e2445cc6bb65bd0bcbc83884", func := "loop.example/g03017/laws.FnCues", spec := "fnCues", unfollowed := true, recurses := true, apart := false }
def FnCuesSaid : Prop := fnCuesRow.holds Try.pinned (OpenSpec.ofChange fnCuesSpec)

/-- ITS FALSE NEIGHBOUR: 'it returns false'. Refute it at one input. -/
def fnCuesWrong : ChangeSpec := { name := "fnCues", fn := fun _ => fun
  | [d] => { results := [.lit (.bool false)], args := [d] }
  | _ => none }
def FnCuesWrongFalsely : Prop := fnCuesRow.holds Try.pinned (OpenSpec.ofChange fnCuesWrong)

/-- 'laws.FnMerged': WHATEVER THE INPUT: true; the input reads as it did. -/
def fnMergedSpec : ChangeSpec := { name := "fnMerged", fn := fun _ => fun
  | [d] => { results := [.lit (.bool true)], args := [d] }
  | _ => none }
def fnMergedRow : OpenClaim := { program := "ytjeibjefpoiidaa", sum := "71f7a97dfeb570c962f3ed57057808e63a218613e2445cc6bb65bd0bcbc83884", func := "loop.example/g03017/laws.FnMerged", spec := "fnMerged", inPlace := ["math.archFloor", "math.Float64bits", "math.Float64frombits", "math.archTrunc"], unfollowed := true, recurses := true, apart := false }
def FnMergedSaid : Prop := fnMergedRow.holds Try.pinned (OpenSpec.ofChange fnMergedSpec)

/-- ITS FALSE NEIGHBOUR: 'it returns false'. Refute it at one input. -/
def fnMergedWrong : ChangeSpec := { name := "fnMerged", fn := fun _ => fun
  | [d] => { results := [.lit (.bool false)], args := [d] }
  | _ => none }
def FnMergedWrongFalsely : Prop := fnMergedRow.holds Try.pinned (OpenSpec.ofChange fnMergedWrong)

/-- 'laws.FnExactIsScore': WHATEVER THE INPUT: true; the input reads as it did. -/
def fnExactIsScoreSpec : ChangeSpec := { name := "fnExactIsScore", fn := fun _ => fun
  | [d] => { results := [.lit (.bool true)], args := [d] }
  | _ => none }
def fnExactIsScoreRow : OpenClaim := { program := "ytjeibjefpoiidaa", sum := "71f7a97dfeb570c962f3ed57057808e63a218613e2445cc6bb65bd0bcbc83884", func := "loop.example/g03017/laws.FnExactIsScore", spec := "fnExactIsScore", apart := false }
def FnExactIsScoreSaid : Prop := fnExactIsScoreRow.holds Try.pinned (OpenSpec.ofChange fnExactIsScoreSpec)

/-- ITS FALSE NEIGHBOUR: 'it returns false'. Refute it at one input. -/
def fnExactIsScoreWrong : ChangeSpec := { name := "fnExactIsScore", fn := fun _ => fun
  | [d] => { results := [.lit (.bool false)], args := [d] }
  | _ => none }
def FnExactIsScoreWrongFalsely : Prop := fnExactIsScoreRow.holds Try.pinned (OpenSpec.ofChange fnExactIsScoreWrong)

/-- 'laws.FnExactOnlyNames': WHATEVER THE INPUT: true; the input reads as it did. -/
def fnExactOnlyNamesSpec : ChangeSpec := { name := "fnExactOnlyNames", fn := fun _ => fun
  | [d1, d2] => { results := [.lit (.bool true)], args := [d1, d2] }
  | _ => none }
def fnExactOnlyNamesRow : OpenClaim := { program := "ytjeibjefpoiidaa", sum := "71f7a97dfeb570c962f3ed57057808e63a218613e2445cc6bb65bd0bcbc83884", func := "loop.example/g03017/laws.FnExactOnlyNames", spec := "fnExactOnlyNames", apart := false }
def FnExactOnlyNamesSaid : Prop := fnExactOnlyNamesRow.holds Try.pinned (OpenSpec.ofChange fnExactOnlyNamesSpec)

/-- ITS FALSE NEIGHBOUR: 'it returns false'. Refute it at one input. -/
def fnExactOnlyNamesWrong : ChangeSpec := { name := "fnExactOnlyNames", fn := fun _ => fun
  | [d1, d2] => { results := [.lit (.bool false)], args := [d1, d2] }
  | _ => none }
def FnExactOnlyNamesWrongFalsely : Prop := fnExactOnlyNamesRow.holds Try.pinned (OpenSpec.ofChange fnExactOnlyNamesWrong)

/- THE SECOND FORM. 'bulk': how many values and letters a reading holds, each counted each time it is reached (what is shared counts as often as it is met; a slice's spare places count too). A statement '..UptoSaid' is the law's where the arguments, and the package variables that the reading takes, are together of bulk at most 1048576: NARROWER than '..Said'. Prove '..Said' where nothing that the law and all that it calls make is longer than what came in: it says more and counts as full. Else prove '..UptoSaid'. A law counts once. -/
mutual
def uptoBulk {H : Type} : DataW H → Nat
  | .lit (.string bytes) => bytes.length + 1
  | .lit _ => 1
  | .nil => 1
  | .ptr d => uptoBulk d + 1
  | .slice elems spare => uptoBulkAll elems + uptoBulkAll spare + 1
  | .agg parts => uptoBulkAll parts + 1
  | .iface _ d => uptoBulk d + 1
  | .map entries => uptoBulkEntries entries + 1
  | .held _ => 1
def uptoBulkAll {H : Type} : List (DataW H) → Nat
  | [] => 0
  | d :: r => uptoBulk d + uptoBulkAll r
def uptoBulkEntries {H : Type} : List (Lit × DataW H) → Nat
  | [] => 0
  | x :: r => uptoBulkEntry x + uptoBulkEntries r
def uptoBulkEntry {H : Type} : Lit × DataW H → Nat
  | (.string bytes, d) => bytes.length + uptoBulk d + 1
  | (_, d) => uptoBulk d + 1
 end
def uptoSmall : (H : Type) → List (DataW H) → Bool := fun _ ds => decide (uptoBulkAll ds ≤ 1048576)
def OpenSpec.upto (s : _root_.Go.ChangeSpec) : _root_.Go.OpenSpec := { _root_.Go.OpenSpec.ofChange s with cond := some uptoSmall }

/-- 'laws.FnExactAddCue', WHERE WHAT IT READS IS OF BULK AT MOST 1048576: true; the input reads as it did. -/
def fnExactAddCueUptoRow : OpenClaim := { program := "ytjeibjefpoiidaa", sum := "71f7a97dfeb570c962f3ed57057808e63a218613e2445cc6bb65bd0bcbc83884", func := "loop.example/g03017/laws.FnExactAddCue", spec := "fnExactAddCue", unfollowed := true, recurses := true, apart := false, narrowed := true }
def FnExactAddCueUptoSaid : Prop := fnExactAddCueUptoRow.holds Try.pinned (OpenSpec.upto fnExactAddCueSpec)

/-- 'laws.FnExactMergeScores', WHERE WHAT IT READS IS OF BULK AT MOST 1048576: true; the input reads as it did. -/
def fnExactMergeScoresUptoRow : OpenClaim := { program := "ytjeibjefpoiidaa", sum := "71f7a97dfeb570c962f3ed57057808e63a218613e2445cc6bb65bd0bcbc83884", func := "loop.example/g03017/laws.FnExactMergeScores", spec := "fnExactMergeScores", unfollowed := true, recurses := true, apart := false, narrowed := true }
def FnExactMergeScoresUptoSaid : Prop := fnExactMergeScoresUptoRow.holds Try.pinned (OpenSpec.upto fnExactMergeScoresSpec)

/-- 'laws.FnCues', WHERE WHAT IT READS IS OF BULK AT MOST 1048576: true; the input reads as it did. -/
def fnCuesUptoRow : OpenClaim := { program := "ytjeibjefpoiidaa", sum := "71f7a97dfeb570c962f3ed57057808e63a218613e2445cc6bb65bd0bcbc83884", func := "loop.example/g03017/laws.FnCues", spec := "fnCues", unfollowed := true, recurses := true, apart := false, narrowed := true }
def FnCuesUptoSaid : Prop := fnCuesUptoRow.holds Try.pinned (OpenSpec.upto fnCuesSpec)

/-- 'laws.FnMerged', WHERE WHAT IT READS IS OF BULK AT MOST 1048576: true; the input reads as it did. -/
def fnMergedUptoRow : OpenClaim := { program := "ytjeibjefpoiidaa", sum := "71f7a97dfeb570c962f3ed57057808e63a218613e2445cc6bb65bd0bcbc83884", func := "loop.example/g03017/laws.FnMerged", spec := "fnMerged", inPlace := ["math.archFloor", "math.Float64bits", "math.Float64frombits", "math.archTrunc"], unfollowed := true, recurses := true, apart := false, narrowed := true }
def FnMergedUptoSaid : Prop := fnMergedUptoRow.holds Try.pinned (OpenSpec.upto fnMergedSpec)

/-- 'laws.FnExactIsScore', WHERE WHAT IT READS IS OF BULK AT MOST 1048576: true; the input reads as it did. -/
def fnExactIsScoreUptoRow : OpenClaim := { program := "ytjeibjefpoiidaa", sum := "71f7a97dfeb570c962f3ed57057808e63a218613e2445cc6bb65bd0bcbc83884", func := "loop.example/g03017/laws.FnExactIsScore", spec := "fnExactIsScore", apart := false, narrowed := true }
def FnExactIsScoreUptoSaid : Prop := fnExactIsScoreUptoRow.holds Try.pinned (OpenSpec.upto fnExactIsScoreSpec)

/-- 'laws.FnExactOnlyNames', WHERE WHAT IT READS IS OF BULK AT MOST 1048576: true; the input reads as it did. -/
def fnExactOnlyNamesUptoRow : OpenClaim := { program := "ytjeibjefpoiidaa", sum := "71f7a97dfeb570c962f3ed57057808e63a218613e2445cc6bb65bd0bcbc83884", func := "loop.example/g03017/laws.FnExactOnlyNames", spec := "fnExactOnlyNames", apart := false, narrowed := true }
def FnExactOnlyNamesUptoSaid : Prop := fnExactOnlyNamesUptoRow.holds Try.pinned (OpenSpec.upto fnExactOnlyNamesSpec)

end Rows
end Go.Proofs.Ytjeibjefpoiidaa
