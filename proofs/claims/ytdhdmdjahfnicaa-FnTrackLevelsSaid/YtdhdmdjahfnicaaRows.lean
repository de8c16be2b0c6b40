/-
  No cell of these rows narrows 'for every input' (looked for: loops, veiled, ifaces, maps, wideKeys, modest, calm, conditions, laid).
  DERIVED. THE GIVEN ROWS OF THIS SEAT. 10 by the template 'for every input the law returns true; each argument reads behind the call as it read before'; 0 by the template 'total and deterministic' (their statements: YtdhdmdjahfnicaaTotals.lean).
  GIVEN WITH THE SEED: the statements are not yours to turn. If you find one false, say at which input.
  Laid BY PROGRAM, IN A SANDBOX (cutbox-rows.mjs): the forced cells as the released guide's own fill.sh prints them over the translation a974631645025605… (all of the seat's roots in one cut). By AI agents, Wed Nov 11 2026. No macro, syntax, notation, axiom, sorry.
-/
import Derived.Test.YtdhdmdjahfnicaaChecked
import GoSem.Claim
import GoSem.ClaimJoined
import GoSem.ClaimMapViews
import Derived.JoinedTies
import Derived.KernelRfl
namespace Go.Proofs.Ytdhdmdjahfnicaa
/- THE CELL 'sum', in the pinned program and in every row, IS THE sha256 OF THE DUMP (.gsa) THAT YtdhdmdjahfnicaaProg.lean LOADS. Nothing in Lean hashes anything: it is a label: what it is worth is what the hold of that sum in a sandbox is worth. -/
noncomputable def Try.pinned : Pinned := { name := "ytdhdmdjahfnicaa", sum := "a97463164502560536afdcbda467a752c08a6f9af73f3725e54ddca6a511eb62", checked := Try.checked }
namespace Rows
def none {H : Type} : Left H := { results := [], args := [] }

/-- 'laws.FnTrackLevels': WHATEVER THE INPUT: true; the input reads as it did. -/
def fnTrackLevelsSpec : ChangeSpec := { name := "fnTrackLevels", fn := fun _ => fun
  | [d] => { results := [.lit (.bool true)], args := [d] }
  | _ => none }
def fnTrackLevelsRow : OpenClaim := { program := "ytdhdmdjahfnicaa", sum := "a97463164502560536afdcbda467a752c08a6f9af73f3725e54ddca6a511eb62", func := "loop.example/g03017/laws.FnTrackLevels", spec := "fnTrackLevels", inPlace := ["math.archFloor", "math.Float64bits", "math.Float64frombits", "math.archTrunc"], apart := false }
def FnTrackLevelsSaid : Prop := fnTrackLevelsRow.holds Try.pinned (OpenSpec.ofChange fnTrackLevelsSpec)

/-- ITS FALSE NEIGHBOUR: 'it returns false'. Refute it at one input. -/
def fnTrackLevelsWrong : ChangeSpec := { name := "fnTrackLevels", fn := fun _ => fun
  | [d] => { results := [.lit (.bool false)], args := [d] }
  | _ => none }
def FnTrackLevelsWrongFalsely : Prop := fnTrackLevelsRow.holds Try.pinned (OpenSpec.ofChange fnTrackLevelsWrong)

/-- 'laws.FnExactTrackOf': WHATEVER THE INPUT: true; the input reads as it did. -/
def fnExactTrackOfSpec : ChangeSpec := { name := "fnExactTrackOf", fn := fun _ => fun
  | [d1, d2, d3] => { results := [.lit (.bool true)], args := [d1, d2, d3] }
  | _ => none }
def fnExactTrackOfRow : OpenClaim := { program := "ytdhdmdjahfnicaa", sum := "a97463164502560536afdcbda467a752c08a6f9af73f3725e54ddca6a511eb62", func := "loop.example/g03017/laws.FnExactTrackOf", spec := "fnExactTrackOf", inPlace := ["math.archFloor", "math.Float64bits", "math.Float64frombits", "math.archTrunc"], apart := false }
def FnExactTrackOfSaid : Prop := fnExactTrackOfRow.holds Try.pinned (OpenSpec.ofChange fnExactTrackOfSpec)

/-- ITS FALSE NEIGHBOUR: 'it returns false'. Refute it at one input. -/
def fnExactTrackOfWrong : ChangeSpec := { name := "fnExactTrackOf", fn := fun _ => fun
  | [d1, d2, d3] => { results := [.lit (.bool false)], args := [d1, d2, d3] }
  | _ => none }
def FnExactTrackOfWrongFalsely : Prop := fnExactTrackOfRow.holds Try.pinned (OpenSpec.ofChange fnExactTrackOfWrong)

/-- 'laws.FnExactIsCue': WHATEVER THE INPUT: true; the input reads as it did. -/
def fnExactIsCueSpec : ChangeSpec := { name := "fnExactIsCue", fn := fun _ => fun
  | [d] => { results := [.lit (.bool true)], args := [d] }
  | _ => none }
def fnExactIsCueRow : OpenClaim := { program := "ytdhdmdjahfnicaa", sum := "a97463164502560536afdcbda467a752c08a6f9af73f3725e54ddca6a511eb62", func := "loop.example/g03017/laws.FnExactIsCue", spec := "fnExactIsCue", apart := false }
def FnExactIsCueSaid : Prop := fnExactIsCueRow.holds Try.pinned (OpenSpec.ofChange fnExactIsCueSpec)

/-- ITS FALSE NEIGHBOUR: 'it returns false'. Refute it at one input. -/
def fnExactIsCueWrong : ChangeSpec := { name := "fnExactIsCue", fn := fun _ => fun
  | [d] => { results := [.lit (.bool false)], args := [d] }
  | _ => none }
def FnExactIsCueWrongFalsely : Prop := fnExactIsCueRow.holds Try.pinned (OpenSpec.ofChange fnExactIsCueWrong)

/-- 'laws.FnExactIsScore': WHATEVER THE INPUT: true; the input reads as it did. -/
def fnExactIsScoreSpec : ChangeSpec := { name := "fnExactIsScore", fn := fun _ => fun
  | [d] => { results := [.lit (.bool true)], args := [d] }
  | _ => none }
def fnExactIsScoreRow : OpenClaim := { program := "ytdhdmdjahfnicaa", sum := "a97463164502560536afdcbda467a752c08a6f9af73f3725e54ddca6a511eb62", func := "loop.example/g03017/laws.FnExactIsScore", spec := "fnExactIsScore", apart := false }
def FnExactIsScoreSaid : Prop := fnExactIsScoreRow.holds Try.pinned (OpenSpec.ofChange fnExactIsScoreSpec)

/-- ITS FALSE NEIGHBOUR: 'it returns false'. Refute it at one input. -/
def fnExactIsScoreWrong : ChangeSpec := { name := "fnExactIsScore", fn := fun _ => fun
  | [d] => { results := [.lit (.bool false)], args := [d] }
  | _ => none }
def FnExactIsScoreWrongFalsely : Prop := fnExactIsScoreRow.holds Try.pinned (OpenSpec.ofChange fnExactIsScoreWrong)

/-- 'laws.FnExactLevelAt': WHATEVER THE INPUT: true; the input reads as it did. -/
def fnExactLevelAtSpec : ChangeSpec := { name := "fnExactLevelAt", fn := fun _ => fun
  | [d1, d2, d3] => { results := [.lit (.bool true)], args := [d1, d2, d3] }
  | _ => none }
def fnExactLevelAtRow : OpenClaim := { program := "ytdhdmdjahfnicaa", sum := "a97463164502560536afdcbda467a752c08a6f9af73f3725e54ddca6a511eb62", func := "loop.example/g03017/laws.FnExactLevelAt", spec := "fnExactLevelAt", inPlace := ["math.archFloor", "math.Float64bits", "math.Float64frombits", "math.archTrunc"], apart := false }
def FnExactLevelAtSaid : Prop := fnExactLevelAtRow.holds Try.pinned (OpenSpec.ofChange fnExactLevelAtSpec)

/-- ITS FALSE NEIGHBOUR: 'it returns false'. Refute it at one input. -/
def fnExactLevelAtWrong : ChangeSpec := { name := "fnExactLevelAt", fn := fun _ => fun
  | [d1, d2, d3] => { results := [.lit (.bool false)], args := [d1, d2, d3] }
  | _ => none }
def FnExactLevelAtWrongFalsely : Prop := fnExactLevelAtRow.holds Try.pinned (OpenSpec.ofChange fnExactLevelAtWrong)

/-- 'laws.FnExactLaterScore': WHATEVER THE INPUT: true; the input reads as it did. -/
def fnExactLaterScoreSpec : ChangeSpec := { name := "fnExactLaterScore", fn := fun _ => fun
  | [d1, d2] => { results := [.lit (.bool true)], args := [d1, d2] }
  | _ => none }
def fnExactLaterScoreRow : OpenClaim := { program := "ytdhdmdjahfnicaa", sum := "a97463164502560536afdcbda467a752c08a6f9af73f3725e54ddca6a511eb62", func := "loop.example/g03017/laws.FnExactLaterScore", spec := "fnExactLaterScore", apart := false }
def FnExactLaterScoreSaid : Prop := fnExactLaterScoreRow.holds Try.pinned (OpenSpec.ofChange fnExactLaterScoreSpec)

/-- ITS FALSE NEIGHBOUR: 'it returns false'. Refute it at one input. -/
def fnExactLaterScoreWrong : ChangeSpec := { name := "fnExactLaterScore", fn := fun _ => fun
  | [d1, d2] => { results := [.lit (.bool false)], args := [d1, d2] }
  | _ => none }
def FnExactLaterScoreWrongFalsely : Prop := fnExactLaterScoreRow.holds Try.pinned (OpenSpec.ofChange fnExactLaterScoreWrong)

/-- 'laws.FnExactOnlyNames': WHATEVER THE INPUT: true; the input reads as it did. -/
def fnExactOnlyNamesSpec : ChangeSpec := { name := "fnExactOnlyNames", fn := fun _ => fun
  | [d1, d2] => { results := [.lit (.bool true)], args := [d1, d2] }
  | _ => none }
def fnExactOnlyNamesRow : OpenClaim := { program := "ytdhdmdjahfnicaa", sum := "a97463164502560536afdcbda467a752c08a6f9af73f3725e54ddca6a511eb62", func := "loop.example/g03017/laws.FnExactOnlyNames", spec := "fnExactOnlyNames", apart := false }
def FnExactOnlyNamesSaid : Prop := fnExactOnlyNamesRow.holds Try.pinned (OpenSpec.ofChange fnExactOnlyNamesSpec)

/-- ITS FALSE NEIGHBOUR: 'it returns false'. Refute it at one input. -/
def fnExactOnlyNamesWrong : ChangeSpec := { name := "fnExactOnlyNames", fn := fun _ => fun
  | [d1, d2] => { results := [.lit (.bool false)], args := [d1, d2] }
  | _ => none }
def FnExactOnlyNamesWrongFalsely : Prop := fnExactOnlyNamesRow.holds Try.pinned (OpenSpec.ofChange fnExactOnlyNamesWrong)

/-- 'laws.FnExactEndOf': WHATEVER THE INPUT: true; the input reads as it did. -/
def fnExactEndOfSpec : ChangeSpec := { name := "fnExactEndOf", fn := fun _ => fun
  | [d] => { results := [.lit (.bool true)], args := [d] }
  | _ => none }
def fnExactEndOfRow : OpenClaim := { program := "ytdhdmdjahfnicaa", sum := "a97463164502560536afdcbda467a752c08a6f9af73f3725e54ddca6a511eb62", func := "loop.example/g03017/laws.FnExactEndOf", spec := "fnExactEndOf", apart := false }
def FnExactEndOfSaid : Prop := fnExactEndOfRow.holds Try.pinned (OpenSpec.ofChange fnExactEndOfSpec)

/-- ITS FALSE NEIGHBOUR: 'it returns false'. Refute it at one input. -/
def fnExactEndOfWrong : ChangeSpec := { name := "fnExactEndOf", fn := fun _ => fun
  | [d] => { results := [.lit (.bool false)], args := [d] }
  | _ => none }
def FnExactEndOfWrongFalsely : Prop := fnExactEndOfRow.holds Try.pinned (OpenSpec.ofChange fnExactEndOfWrong)

/-- 'laws.FnExactIsTrack': WHATEVER THE INPUT: true; the input reads as it did. -/
def fnExactIsTrackSpec : ChangeSpec := { name := "fnExactIsTrack", fn := fun _ => fun
  | [d] => { results := [.lit (.bool true)], args := [d] }
  | _ => none }
def fnExactIsTrackRow : OpenClaim := { program := "ytdhdmdjahfnicaa", sum := "a97463164502560536afdcbda467a752c08a6f9af73f3725e54ddca6a511eb62", func := "loop.example/g03017/laws.FnExactIsTrack", spec := "fnExactIsTrack", apart := false }
def FnExactIsTrackSaid : Prop := fnExactIsTrackRow.holds Try.pinned (OpenSpec.ofChange fnExactIsTrackSpec)

/-- ITS FALSE NEIGHBOUR: 'it returns false'. Refute it at one input. -/
def fnExactIsTrackWrong : ChangeSpec := { name := "fnExactIsTrack", fn := fun _ => fun
  | [d] => { results := [.lit (.bool false)], args := [d] }
  | _ => none }
def FnExactIsTrackWrongFalsely : Prop := fnExactIsTrackRow.holds Try.pinned (OpenSpec.ofChange fnExactIsTrackWrong)

/-- 'laws.FnExactWindowOf': WHATEVER THE INPUT: true; the input reads as it did. -/
def fnExactWindowOfSpec : ChangeSpec := { name := "fnExactWindowOf", fn := fun _ => fun
  | [d1, d2, d3] => { results := [.lit (.bool true)], args := [d1, d2, d3] }
  | _ => none }
def fnExactWindowOfRow : OpenClaim := { program := "ytdhdmdjahfnicaa", sum := "a97463164502560536afdcbda467a752c08a6f9af73f3725e54ddca6a511eb62", func := "loop.example/g03017/laws.FnExactWindowOf", spec := "fnExactWindowOf", apart := false }
def FnExactWindowOfSaid : Prop := fnExactWindowOfRow.holds Try.pinned (OpenSpec.ofChange fnExactWindowOfSpec)

/-- ITS FALSE NEIGHBOUR: 'it returns false'. Refute it at one input. -/
def fnExactWindowOfWrong : ChangeSpec := { name := "fnExactWindowOf", fn := fun _ => fun
  | [d1, d2, d3] => { results := [.lit (.bool false)], args := [d1, d2, d3] }
  | _ => none }
def FnExactWindowOfWrongFalsely : Prop := fnExactWindowOfRow.holds Try.pinned (OpenSpec.ofChange fnExactWindowOfWrong)

/- THE SECOND FORM. 'bulk': how many values and letters a reading holds, each counted each time it is reached (what is shared counts as often as it is met; a slice's spare places count too). A statement '..UptoSaid' is the law's where the arguments, and the package variables that the reading takes, are together of bulk at most 1048576: NARROWER than '..Said'. Prove '..Said' where nothing that the law and all that it calls make is longer than what came in: it says more and counts as full. Else prove '..UptoSaid'. A law counts once. -/
mutual
def uptoBulk {H : Type} : DataW H → Nat
  | .lit (.string bytes) => bytes.length + 1
  | .lit _ => 1
  | .nil => 1
  | .ptr d => uptoBulk d + 1
  | .slice elems spare => uptoBulkAll elems + uptoBulkAll spare + 1
  | .agg parts => uptoBulkAll parts + 1
  | .iface _ d => uptoBulk d + 1
  | .map entries => uptoBulkEntries entries + 1
  | .held _ => 1
def uptoBulkAll {H : Type} : List (DataW H) → Nat
  | [] => 0
  | d :: r => uptoBulk d + uptoBulkAll r
def uptoBulkEntries {H : Type} : List (Lit × DataW H) → Nat
  | [] => 0
  | x :: r => uptoBulkEntry x + uptoBulkEntries r
def uptoBulkEntry {H : Type} : Lit × DataW H → Nat
  | (.string bytes, d) => bytes.length + uptoBulk d + 1
  | (_, d) => uptoBulk d + 1
 end
def uptoSmall : (H : Type) → List (DataW H) → Bool := fun _ ds => decide (uptoBulkAll ds ≤ 1048576)
def OpenSpec.upto (s : _root_.Go.ChangeSpec) : _root_.Go.OpenSpec := { _root_.Go.OpenSpec.ofChange s with cond := some uptoSmall }

/-- 'laws.FnTrackLevels', WHERE WHAT IT READS IS OF BULK AT MOST 1048576: true; the input reads as it did. -/
def fnTrackLevelsUptoRow : OpenClaim := { program := "ytdhdmdjahfnicaa", sum := "a97463164502560536afdcbda467a752c08a6f9af73f3725e54ddca6a511eb62", func := "loop.example/g03017/laws.FnTrackLevels", spec := "fnTrackLevels", inPlace := ["math.archFloor", "math.Float64bits", "math.Float64frombits", "math.archTrunc"], apart := false, narrowed := true }
def FnTrackLevelsUptoSaid : Prop := fnTrackLevelsUptoRow.holds Try.pinned (OpenSpec.upto fnTrackLevelsSpec)

/-- 'laws.FnExactTrackOf', WHERE WHAT IT READS IS OF BULK AT MOST 1048576: true; the input reads as it did. -/
def fnExactTrackOfUptoRow : OpenClaim := { program := "ytdhdmdjahfnicaa", sum := "a97463164502560536afdcbda467a752c08a6f9af73f3725e54ddca6a511eb62", func := "loop.example/g03017/laws.FnExactTrackOf", spec := "fnExactTrackOf", inPlace := ["math.archFloor", "math.Float64bits", "math.Float64frombits", "math.archTrunc"], apart := false, narrowed := true }
def FnExactTrackOfUptoSaid : Prop := fnExactTrackOfUptoRow.holds Try.pinned (OpenSpec.upto fnExactTrackOfSpec)

/-- 'laws.FnExactIsCue', WHERE WHAT IT READS IS OF BULK AT MOST 1048576: true; the input reads as it did. -/
def fnExactIsCueUptoRow : OpenClaim := { program := "ytdhdmdjahfnicaa", sum := "a97463164502560536afdcbda467a752c08a6f9af73f3725e54ddca6a511eb62", func := "loop.example/g03017/laws.FnExactIsCue", spec := "fnExactIsCue", apart := false, narrowed := true }
def FnExactIsCueUptoSaid : Prop := fnExactIsCueUptoRow.holds Try.pinned (OpenSpec.upto fnExactIsCueSpec)

/-- 'laws.FnExactIsScore', WHERE WHAT IT READS IS OF BULK AT MOST 1048576: true; the input reads as it did. -/
def fnExactIsScoreUptoRow : OpenClaim := { program := "ytdhdmdjahfnicaa", sum := "a97463164502560536afdcbda467a752c08a6f9af73f3725e54ddca6a511eb62", func := "loop.example/g03017/laws.FnExactIsScore", spec := "fnExactIsScore", apart := false, narrowed := true }
def FnExactIsScoreUptoSaid : Prop := fnExactIsScoreUptoRow.holds Try.pinned (OpenSpec.upto fnExactIsScoreSpec)

/-- 'laws.FnExactLevelAt', WHERE WHAT IT READS IS OF BULK AT MOST 1048576: true; the input reads as it did. -/
def fnExactLevelAtUptoRow : OpenClaim := { program := "ytdhdmdjahfnicaa", sum := "a97463164502560536afdcbda467a752c08a6f9af73f3725e54ddca6a511eb62", func := "loop.example/g03017/laws.FnExactLevelAt", spec := "fnExactLevelAt", inPlace := ["math.archFloor", "math.Float64bits", "math.Float64frombits", "math.archTrunc"], apart := false, narrowed := true }
def FnExactLevelAtUptoSaid : Prop := fnExactLevelAtUptoRow.holds Try.pinned (OpenSpec.upto fnExactLevelAtSpec)

/-- 'laws.FnExactLaterScore', WHERE WHAT IT READS IS OF BULK AT MOST 1048576: true; the input reads as it did. -/
def fnExactLaterScoreUptoRow : OpenClaim := { program := "ytdhdmdjahfnicaa", sum := "a97463164502560536afdcbda467a752c08a6f9af73f3725e54ddca6a511eb62", func := "loop.example/g03017/laws.FnExactLaterScore", spec := "fnExactLaterScore", apart := false, narrowed := true }
def FnExactLaterScoreUptoSaid : Prop := fnExactLaterScoreUptoRow.holds Try.pinned (OpenSpec.upto fnExactLaterScoreSpec)

/-- 'laws.FnExactOnlyNames', WHERE WHAT IT READS IS OF BULK AT MOST 1048576: true; the input reads as it did. -/
def fnExactOnlyNamesUptoRow : OpenClaim := { program := "ytdhdmdjahfnicaa", sum := "a97463164502560536afdcbda467a752c08a6f9af73f3725e54ddca6a511eb62", func := "loop.example/g03017/laws.FnExactOnlyNames", spec := "fnExactOnlyNames", apart := false, narrowed := true }
def FnExactOnlyNamesUptoSaid : Prop := fnExactOnlyNamesUptoRow.holds Try.pinned (OpenSpec.upto fnExactOnlyNamesSpec)

/-- 'laws.FnExactEndOf', WHERE WHAT IT READS IS OF BULK AT MOST 1048576: true; the input reads as it did. -/
def fnExactEndOfUptoRow : OpenClaim := { program := "ytdhdmdjahfnicaa", sum := "a97463164502560536afdcbda467a752c08a6f9af73f3725e54ddca6a511eb62", func := "loop.example/g03017/laws.FnExactEndOf", spec := "fnExactEndOf", apart := false, narrowed := true }
def FnExactEndOfUptoSaid : Prop := fnExactEndOfUptoRow.holds Try.pinned (OpenSpec.upto fnExactEndOfSpec)

/-- 'laws.FnExactIsTrack', WHERE WHAT IT READS IS OF BULK AT MOST 1048576: true; the input reads as it did. -/
def fnExactIsTrackUptoRow : OpenClaim := { program := "ytdhdmdjahfnicaa", sum := "a97463164502560536afdcbda467a752c08a6f9af73f3725e54ddca6a511eb62", func := "loop.example/g03017/laws.FnExactIsTrack", spec := "fnExactIsTrack", apart := false, narrowed := true }
def FnExactIsTrackUptoSaid : Prop := fnExactIsTrackUptoRow.holds Try.pinned (OpenSpec.upto fnExactIsTrackSpec)

/-- 'laws.FnExactWindowOf', WHERE WHAT IT READS IS OF BULK AT MOST 1048576: true; the input reads as it did. -/
def fnExactWindowOfUptoRow : OpenClaim := { program := "ytdhdmdjahfnicaa", sum := "a97463164502560536afdcbda467a752c08a6f9af73f3725e54ddca6a511eb62", func := "loop.example/g03017/laws.FnExactWindowOf", spec := "fnExactWindowOf", apart := false, narrowed := true }
def FnExactWindowOfUptoSaid : Prop := fnExactWindowOfUptoRow.holds Try.pinned (OpenSpec.upto fnExactWindowOfSpec)

end Rows
end Go.Proofs.Ytdhdmdjahfnicaa
