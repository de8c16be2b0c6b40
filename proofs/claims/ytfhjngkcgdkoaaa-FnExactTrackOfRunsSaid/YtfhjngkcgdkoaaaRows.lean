/-
  No cell of these rows narrows 'for every input' (looked for: loops, veiled, ifaces, maps, wideKeys, modest, calm, conditions, laid).
  DERIVED. THE GIVEN ROWS OF THIS SEAT. 11 by the template 'for every input the law returns true; each argument reads behind the call as it read before'; 0 by the template 'total and deterministic' (their statements: YtfhjngkcgdkoaaaTotals.lean).
  GIVEN WITH THE SEED: the statements are not yours to turn. If you find one false, say at which input.
  Laid BY PROGRAM, IN A SANDBOX (cutbox-rows.mjs): the forced cells as the released guide's own fill.sh prints them over the translation d7da599c2f2f9ec9… (all of the seat's roots in one cut). By AI agents, Wed Nov 11 2026. No macro, syntax, notation, axiom, sorry.
-/
import Derived.Test.YtfhjngkcgdkoaaaChecked
import GoSem.Claim
import GoSem.ClaimJoined
import GoSem.ClaimMapViews
import Derived.JoinedTies
import Derived.KernelRfl
namespace Go.Proofs.Ytfhjngkcgdkoaaa
/- THE CELL 'sum', in the pinned program and in every row, IS THE sha256 OF THE DUMP (.gsa) THAT YtfhjngkcgdkoaaaProg.lean LOADS. Nothing in Lean hashes anything: it is a label: what it is worth is what the hold of that sum in a sandbox is worth. -/
noncomputable def Try.pinned : Pinned := { name := "ytfhjngkcgdkoaaa", sum := "d7da599c2f2f9ec99ce082702bcb4a138784b9f4938237df9dbdf42731abccbc", checked := Try.checked }
namespace Rows
def none {H : Type} : Left H := { results := [], args := [] }

/-- 'laws.FnExactIsTrack': WHATEVER THE INPUT: true; the input reads as it did. -/
def fnExactIsTrackSpec : ChangeSpec := { name := "fnExactIsTrack", fn := fun _ => fun
  | [d] => { results := [.lit (.bool true)], args := [d] }
  | _ => none }
def fnExactIsTrackRow : OpenClaim := { program := "ytfhjngkcgdkoaaa", sum := "d7da599c2f2f9ec99ce082702bcb4a138784b9f4938237df9dbdf42731abccbc", func := "loop.example/g03017/laws.FnExactIsTrack", spec := "fnExactIsTrack", apart := false }
def FnExactIsTrackSaid : Prop := fnExactIsTrackRow.holds Try.pinned (OpenSpec.ofChange fnExactIsTrackSpec)

/-- ITS FALSE NEIGHBOUR: 'it returns false'. Refute it at one input. -/
def fnExactIsTrackWrong : ChangeSpec := { name := "fnExactIsTrack", fn := fun _ => fun
  | [d] => { results := [.lit (.bool false)], args := [d] }
  | _ => none }
def FnExactIsTrackWrongFalsely : Prop := fnExactIsTrackRow.holds Try.pinned (OpenSpec.ofChange fnExactIsTrackWrong)

/-- 'laws.FnExactBlocksOf': WHATEVER THE INPUT: true; the input reads as it did. -/
def fnExactBlocksOfSpec : ChangeSpec := { name := "fnExactBlocksOf", fn := fun _ => fun
  | [d] => { results := [.lit (.bool true)], args := [d] }
  | _ => none }
def fnExactBlocksOfRow : OpenClaim := { program := "ytfhjngkcgdkoaaa", sum := "d7da599c2f2f9ec99ce082702bcb4a138784b9f4938237df9dbdf42731abccbc", func := "loop.example/g03017/laws.FnExactBlocksOf", spec := "fnExactBlocksOf", apart := false }
def FnExactBlocksOfSaid : Prop := fnExactBlocksOfRow.holds Try.pinned (OpenSpec.ofChange fnExactBlocksOfSpec)

/-- ITS FALSE NEIGHBOUR: 'it returns false'. Refute it at one input. -/
def fnExactBlocksOfWrong : ChangeSpec := { name := "fnExactBlocksOf", fn := fun _ => fun
  | [d] => { results := [.lit (.bool false)], args := [d] }
  | _ => none }
def FnExactBlocksOfWrongFalsely : Prop := fnExactBlocksOfRow.holds Try.pinned (OpenSpec.ofChange fnExactBlocksOfWrong)

/-- 'laws.FnExactTrackFrom': WHATEVER THE INPUT: true; the input reads as it did. -/
def fnExactTrackFromSpec : ChangeSpec := { name := "fnExactTrackFrom", fn := fun _ => fun
  | [d1, d2] => { results := [.lit (.bool true)], args := [d1, d2] }
  | _ => none }
def fnExactTrackFromRow : OpenClaim := { program := "ytfhjngkcgdkoaaa", sum := "d7da599c2f2f9ec99ce082702bcb4a138784b9f4938237df9dbdf42731abccbc", func := "loop.example/g03017/laws.FnExactTrackFrom", spec := "fnExactTrackFrom", apart := false }
def FnExactTrackFromSaid : Prop := fnExactTrackFromRow.holds Try.pinned (OpenSpec.ofChange fnExactTrackFromSpec)

/-- ITS FALSE NEIGHBOUR: 'it returns false'. Refute it at one input. -/
def fnExactTrackFromWrong : ChangeSpec := { name := "fnExactTrackFrom", fn := fun _ => fun
  | [d1, d2] => { results := [.lit (.bool false)], args := [d1, d2] }
  | _ => none }
def FnExactTrackFromWrongFalsely : Prop := fnExactTrackFromRow.holds Try.pinned (OpenSpec.ofChange fnExactTrackFromWrong)

/-- 'laws.FnExactRunsOf': WHATEVER THE INPUT: true; the input reads as it did. -/
def fnExactRunsOfSpec : ChangeSpec := { name := "fnExactRunsOf", fn := fun _ => fun
  | [d] => { results := [.lit (.bool true)], args := [d] }
  | _ => none }
def fnExactRunsOfRow : OpenClaim := { program := "ytfhjngkcgdkoaaa", sum := "d7da599c2f2f9ec99ce082702bcb4a138784b9f4938237df9dbdf42731abccbc", func := "loop.example/g03017/laws.FnExactRunsOf", spec := "fnExactRunsOf", apart := false }
def FnExactRunsOfSaid : Prop := fnExactRunsOfRow.holds Try.pinned (OpenSpec.ofChange fnExactRunsOfSpec)

/-- ITS FALSE NEIGHBOUR: 'it returns false'. Refute it at one input. -/
def fnExactRunsOfWrong : ChangeSpec := { name := "fnExactRunsOf", fn := fun _ => fun
  | [d] => { results := [.lit (.bool false)], args := [d] }
  | _ => none }
def FnExactRunsOfWrongFalsely : Prop := fnExactRunsOfRow.holds Try.pinned (OpenSpec.ofChange fnExactRunsOfWrong)

/-- 'laws.FnExactTrackOfRuns': WHATEVER THE INPUT: true; the input reads as it did. -/
def fnExactTrackOfRunsSpec : ChangeSpec := { name := "fnExactTrackOfRuns", fn := fun _ => fun
  | [d] => { results := [.lit (.bool true)], args := [d] }
  | _ => none }
def fnExactTrackOfRunsRow : OpenClaim := { program := "ytfhjngkcgdkoaaa", sum := "d7da599c2f2f9ec99ce082702bcb4a138784b9f4938237df9dbdf42731abccbc", func := "loop.example/g03017/laws.FnExactTrackOfRuns", spec := "fnExactTrackOfRuns", apart := false }
def FnExactTrackOfRunsSaid : Prop := fnExactTrackOfRunsRow.holds Try.pinned (OpenSpec.ofChange fnExactTrackOfRunsSpec)

/-- ITS FALSE NEIGHBOUR: 'it returns false'. Refute it at one input. -/
def fnExactTrackOfRunsWrong : ChangeSpec := { name := "fnExactTrackOfRuns", fn := fun _ => fun
  | [d] => { results := [.lit (.bool false)], args := [d] }
  | _ => none }
def FnExactTrackOfRunsWrongFalsely : Prop := fnExactTrackOfRunsRow.holds Try.pinned (OpenSpec.ofChange fnExactTrackOfRunsWrong)

/-- 'laws.FnExactWindowOf': WHATEVER THE INPUT: true; the input reads as it did. -/
def fnExactWindowOfSpec : ChangeSpec := { name := "fnExactWindowOf", fn := fun _ => fun
  | [d1, d2, d3] => { results := [.lit (.bool true)], args := [d1, d2, d3] }
  | _ => none }
def fnExactWindowOfRow : OpenClaim := { program := "ytfhjngkcgdkoaaa", sum := "d7da599c2f2f9ec99ce082702bcb4a138784b9f4938237df9dbdf42731abccbc", func := "loop.example/g03017/laws.FnExactWindowOf", spec := "fnExactWindowOf", apart := false }
def FnExactWindowOfSaid : Prop := fnExactWindowOfRow.holds Try.pinned (OpenSpec.ofChange fnExactWindowOfSpec)

/-- ITS FALSE NEIGHBOUR: 'it returns false'. Refute it at one input. -/
def fnExactWindowOfWrong : ChangeSpec := { name := "fnExactWindowOf", fn := fun _ => fun
  | [d1, d2, d3] => { results := [.lit (.bool false)], args := [d1, d2, d3] }
  | _ => none }
def FnExactWindowOfWrongFalsely : Prop := fnExactWindowOfRow.holds Try.pinned (OpenSpec.ofChange fnExactWindowOfWrong)

/-- 'laws.FnExactJoinTracks': WHATEVER THE INPUT: true; the input reads as it did. -/
def fnExactJoinTracksSpec : ChangeSpec := { name := "fnExactJoinTracks", fn := fun _ => fun
  | [d1, d2] => { results := [.lit (.bool true)], args := [d1, d2] }
  | _ => none }
def fnExactJoinTracksRow : OpenClaim := { program := "ytfhjngkcgdkoaaa", sum := "d7da599c2f2f9ec99ce082702bcb4a138784b9f4938237df9dbdf42731abccbc", func := "loop.example/g03017/laws.FnExactJoinTracks", spec := "fnExactJoinTracks", apart := false }
def FnExactJoinTracksSaid : Prop := fnExactJoinTracksRow.holds Try.pinned (OpenSpec.ofChange fnExactJoinTracksSpec)

/-- ITS FALSE NEIGHBOUR: 'it returns false'. Refute it at one input. -/
def fnExactJoinTracksWrong : ChangeSpec := { name := "fnExactJoinTracks", fn := fun _ => fun
  | [d1, d2] => { results := [.lit (.bool false)], args := [d1, d2] }
  | _ => none }
def FnExactJoinTracksWrongFalsely : Prop := fnExactJoinTracksRow.holds Try.pinned (OpenSpec.ofChange fnExactJoinTracksWrong)

/-- 'laws.FnExactHigherOf': WHATEVER THE INPUT: true; the input reads as it did. -/
def fnExactHigherOfSpec : ChangeSpec := { name := "fnExactHigherOf", fn := fun _ => fun
  | [d1, d2] => { results := [.lit (.bool true)], args := [d1, d2] }
  | _ => none }
def fnExactHigherOfRow : OpenClaim := { program := "ytfhjngkcgdkoaaa", sum := "d7da599c2f2f9ec99ce082702bcb4a138784b9f4938237df9dbdf42731abccbc", func := "loop.example/g03017/laws.FnExactHigherOf", spec := "fnExactHigherOf", apart := false }
def FnExactHigherOfSaid : Prop := fnExactHigherOfRow.holds Try.pinned (OpenSpec.ofChange fnExactHigherOfSpec)

/-- ITS FALSE NEIGHBOUR: 'it returns false'. Refute it at one input. -/
def fnExactHigherOfWrong : ChangeSpec := { name := "fnExactHigherOf", fn := fun _ => fun
  | [d1, d2] => { results := [.lit (.bool false)], args := [d1, d2] }
  | _ => none }
def FnExactHigherOfWrongFalsely : Prop := fnExactHigherOfRow.holds Try.pinned (OpenSpec.ofChange fnExactHigherOfWrong)

/-- 'laws.FnExactCutTrack': WHATEVER THE INPUT: true; the input reads as it did. -/
def fnExactCutTrackSpec : ChangeSpec := { name := "fnExactCutTrack", fn := fun _ => fun
  | [d1, d2] => { results := [.lit (.bool true)], args := [d1, d2] }
  | _ => none }
def fnExactCutTrackRow : OpenClaim := { program := "ytfhjngkcgdkoaaa", sum := "d7da599c2f2f9ec99ce082702bcb4a138784b9f4938237df9dbdf42731abccbc", func := "loop.example/g03017/laws.FnExactCutTrack", spec := "fnExactCutTrack", apart := false }
def FnExactCutTrackSaid : Prop := fnExactCutTrackRow.holds Try.pinned (OpenSpec.ofChange fnExactCutTrackSpec)

/-- ITS FALSE NEIGHBOUR: 'it returns false'. Refute it at one input. -/
def fnExactCutTrackWrong : ChangeSpec := { name := "fnExactCutTrack", fn := fun _ => fun
  | [d1, d2] => { results := [.lit (.bool false)], args := [d1, d2] }
  | _ => none }
def FnExactCutTrackWrongFalsely : Prop := fnExactCutTrackRow.holds Try.pinned (OpenSpec.ofChange fnExactCutTrackWrong)

/-- 'laws.FnExactStepOf': WHATEVER THE INPUT: true; the input reads as it did. -/
def fnExactStepOfSpec : ChangeSpec := { name := "fnExactStepOf", fn := fun _ => fun
  | [d] => { results := [.lit (.bool true)], args := [d] }
  | _ => none }
def fnExactStepOfRow : OpenClaim := { program := "ytfhjngkcgdkoaaa", sum := "d7da599c2f2f9ec99ce082702bcb4a138784b9f4938237df9dbdf42731abccbc", func := "loop.example/g03017/laws.FnExactStepOf", spec := "fnExactStepOf", apart := false }
def FnExactStepOfSaid : Prop := fnExactStepOfRow.holds Try.pinned (OpenSpec.ofChange fnExactStepOfSpec)

/-- ITS FALSE NEIGHBOUR: 'it returns false'. Refute it at one input. -/
def fnExactStepOfWrong : ChangeSpec := { name := "fnExactStepOf", fn := fun _ => fun
  | [d] => { results := [.lit (.bool false)], args := [d] }
  | _ => none }
def FnExactStepOfWrongFalsely : Prop := fnExactStepOfRow.holds Try.pinned (OpenSpec.ofChange fnExactStepOfWrong)

/-- 'laws.FnExactSumOfTrack': WHATEVER THE INPUT: true; the input reads as it did. -/
def fnExactSumOfTrackSpec : ChangeSpec := { name := "fnExactSumOfTrack", fn := fun _ => fun
  | [d] => { results := [.lit (.bool true)], args := [d] }
  | _ => none }
def fnExactSumOfTrackRow : OpenClaim := { program := "ytfhjngkcgdkoaaa", sum := "d7da599c2f2f9ec99ce082702bcb4a138784b9f4938237df9dbdf42731abccbc", func := "loop.example/g03017/laws.FnExactSumOfTrack", spec := "fnExactSumOfTrack", apart := false }
def FnExactSumOfTrackSaid : Prop := fnExactSumOfTrackRow.holds Try.pinned (OpenSpec.ofChange fnExactSumOfTrackSpec)

/-- ITS FALSE NEIGHBOUR: 'it returns false'. Refute it at one input. -/
def fnExactSumOfTrackWrong : ChangeSpec := { name := "fnExactSumOfTrack", fn := fun _ => fun
  | [d] => { results := [.lit (.bool false)], args := [d] }
  | _ => none }
def FnExactSumOfTrackWrongFalsely : Prop := fnExactSumOfTrackRow.holds Try.pinned (OpenSpec.ofChange fnExactSumOfTrackWrong)

/- THE SECOND FORM. 'bulk': how many values and letters a reading holds, each counted each time it is reached (what is shared counts as often as it is met; a slice's spare places count too). A statement '..UptoSaid' is the law's where the arguments, and the package variables that the reading takes, are together of bulk at most 1048576: NARROWER than '..Said'. Prove '..Said' where nothing that the law and all that it calls make is longer than what came in: it says more and counts as full. Else prove '..UptoSaid'. A law counts once. -/
mutual
def uptoBulk {H : Type} : DataW H → Nat
  | .lit (.string bytes) => bytes.length + 1
  | .lit _ => 1
  | .nil => 1
  | .ptr d => uptoBulk d + 1
  | .slice elems spare => uptoBulkAll elems + uptoBulkAll spare + 1
  | .agg parts => uptoBulkAll parts + 1
  | .iface _ d => uptoBulk d + 1
  | .map entries => uptoBulkEntries entries + 1
  | .held _ => 1
def uptoBulkAll {H : Type} : List (DataW H) → Nat
  | [] => 0
  | d :: r => uptoBulk d + uptoBulkAll r
def uptoBulkEntries {H : Type} : List (Lit × DataW H) → Nat
  | [] => 0
  | x :: r => uptoBulkEntry x + uptoBulkEntries r
def uptoBulkEntry {H : Type} : Lit × DataW H → Nat
  | (.string bytes, d) => bytes.length + uptoBulk d + 1
  | (_, d) => uptoBulk d + 1
 end
def uptoSmall : (H : Type) → List (DataW H) → Bool := fun _ ds => decide (uptoBulkAll ds ≤ 1048576)
def OpenSpec.upto (s : _root_.Go.ChangeSpec) : _root_.Go.OpenSpec := { _root_.Go.OpenSpec.ofChange s with cond := some uptoSmall }

/-- 'laws.FnExactIsTrack', WHERE WHAT IT READS IS OF BULK AT MOST 1048576: true; the input reads as it did. -/
def fnExactIsTrackUptoRow : OpenClaim := { program := "ytfhjngkcgdkoaaa", sum := "d7da599c2f2f9ec99ce082702bcb4a138784b9f4938237df9dbdf42731abccbc", func := "loop.example/g03017/laws.FnExactIsTrack", spec := "fnExactIsTrack", apart := false, narrowed := true }
def FnExactIsTrackUptoSaid : Prop := fnExactIsTrackUptoRow.holds Try.pinned (OpenSpec.upto fnExactIsTrackSpec)

/-- 'laws.FnExactBlocksOf', WHERE WHAT IT READS IS OF BULK AT MOST 1048576: true; the input reads as it did. -/
def fnExactBlocksOfUptoRow : OpenClaim := { program := "ytfhjngkcgdkoaaa", sum := "d7da599c2f2f9ec99ce082702bcb4a138784b9f4938237df9dbdf42731abccbc", func := "loop.example/g03017/laws.FnExactBlocksOf", spec := "fnExactBlocksOf", apart := false, narrowed := true }
def FnExactBlocksOfUptoSaid : Prop := fnExactBlocksOfUptoRow.holds Try.pinned (OpenSpec.upto fnExactBlocksOfSpec)

/-- 'laws.FnExactTrackFrom', WHERE WHAT IT READS IS OF BULK AT MOST 1048576: true; the input reads as it did. -/
def fnExactTrackFromUptoRow : OpenClaim := { program := "ytfhjngkcgdkoaaa", sum := "d7da599c2f2f9ec99ce082702bcb4a138784b9f4938237df9dbdf42731abccbc", func := "loop.example/g03017/laws.FnExactTrackFrom", spec := "fnExactTrackFrom", apart := false, narrowed := true }
def FnExactTrackFromUptoSaid : Prop := fnExactTrackFromUptoRow.holds Try.pinned (OpenSpec.upto fnExactTrackFromSpec)

/-- 'laws.FnExactRunsOf', WHERE WHAT IT READS IS OF BULK AT MOST 1048576: true; the input reads as it did. -/
def fnExactRunsOfUptoRow : OpenClaim := { program := "ytfhjngkcgdkoaaa", sum := "d7da599c2f2f9ec99ce082702bcb4a138784b9f4938237df9dbdf42731abccbc", func := "loop.example/g03017/laws.FnExactRunsOf", spec := "fnExactRunsOf", apart := false, narrowed := true }
def FnExactRunsOfUptoSaid : Prop := fnExactRunsOfUptoRow.holds Try.pinned (OpenSpec.upto fnExactRunsOfSpec)

/-- 'laws.FnExactTrackOfRuns', WHERE WHAT IT READS IS OF BULK AT MOST 1048576: true; the input reads as it did. -/
def fnExactTrackOfRunsUptoRow : OpenClaim := { program := "ytfhjngkcgdkoaaa", sum := "d7da599c2f2f9ec99ce082702bcb4a138784b9f4938237df9dbdf42731abccbc", func := "loop.example/g03017/laws.FnExactTrackOfRuns", spec := "fnExactTrackOfRuns", apart := false, narrowed := true }
def FnExactTrackOfRunsUptoSaid : Prop := fnExactTrackOfRunsUptoRow.holds Try.pinned (OpenSpec.upto fnExactTrackOfRunsSpec)

/-- 'laws.FnExactWindowOf', WHERE WHAT IT READS IS OF BULK AT MOST 1048576: true; the input reads as it did. -/
def fnExactWindowOfUptoRow : OpenClaim := { program := "ytfhjngkcgdkoaaa", sum := "d7da599c2f2f9ec99ce082702bcb4a138784b9f4938237df9dbdf42731abccbc", func := "loop.example/g03017/laws.FnExactWindowOf", spec := "fnExactWindowOf", apart := false, narrowed := true }
def FnExactWindowOfUptoSaid : Prop := fnExactWindowOfUptoRow.holds Try.pinned (OpenSpec.upto fnExactWindowOfSpec)

/-- 'laws.FnExactJoinTracks', WHERE WHAT IT READS IS OF BULK AT MOST 1048576: true; the input reads as it did. -/
def fnExactJoinTracksUptoRow : OpenClaim := { program := "ytfhjngkcgdkoaaa", sum := "d7da599c2f2f9ec99ce082702bcb4a138784b9f4938237df9dbdf42731abccbc", func := "loop.example/g03017/laws.FnExactJoinTracks", spec := "fnExactJoinTracks", apart := false, narrowed := true }
def FnExactJoinTracksUptoSaid : Prop := fnExactJoinTracksUptoRow.holds Try.pinned (OpenSpec.upto fnExactJoinTracksSpec)

/-- 'laws.FnExactHigherOf', WHERE WHAT IT READS IS OF BULK AT MOST 1048576: true; the input reads as it did. -/
def fnExactHigherOfUptoRow : OpenClaim := { program := "ytfhjngkcgdkoaaa", sum := "d7da599c2f2f9ec99ce082702bcb4a138784b9f4938237df9dbdf42731abccbc", func := "loop.example/g03017/laws.FnExactHigherOf", spec := "fnExactHigherOf", apart := false, narrowed := true }
def FnExactHigherOfUptoSaid : Prop := fnExactHigherOfUptoRow.holds Try.pinned (OpenSpec.upto fnExactHigherOfSpec)

/-- 'laws.FnExactCutTrack', WHERE WHAT IT READS IS OF BULK AT MOST 1048576: true; the input reads as it did. -/
def fnExactCutTrackUptoRow : OpenClaim := { program := "ytfhjngkcgdkoaaa", sum := "d7da599c2f2f9ec99ce082702bcb4a138784b9f4938237df9dbdf42731abccbc", func := "loop.example/g03017/laws.FnExactCutTrack", spec := "fnExactCutTrack", apart := false, narrowed := true }
def FnExactCutTrackUptoSaid : Prop := fnExactCutTrackUptoRow.holds Try.pinned (OpenSpec.upto fnExactCutTrackSpec)

/-- 'laws.FnExactStepOf', WHERE WHAT IT READS IS OF BULK AT MOST 1048576: true; the input reads as it did. -/
def fnExactStepOfUptoRow : OpenClaim := { program := "ytfhjngkcgdkoaaa", sum := "d7da599c2f2f9ec99ce082702bcb4a138784b9f4938237df9dbdf42731abccbc", func := "loop.example/g03017/laws.FnExactStepOf", spec := "fnExactStepOf", apart := false, narrowed := true }
def FnExactStepOfUptoSaid : Prop := fnExactStepOfUptoRow.holds Try.pinned (OpenSpec.upto fnExactStepOfSpec)

/-- 'laws.FnExactSumOfTrack', WHERE WHAT IT READS IS OF BULK AT MOST 1048576: true; the input reads as it did. -/
def fnExactSumOfTrackUptoRow : OpenClaim := { program := "ytfhjngkcgdkoaaa", sum := "d7da599c2f2f9ec99ce082702bcb4a138784b9f4938237df9dbdf42731abccbc", func := "loop.example/g03017/laws.FnExactSumOfTrack", spec := "fnExactSumOfTrack", apart := false, narrowed := true }
def FnExactSumOfTrackUptoSaid : Prop := fnExactSumOfTrackUptoRow.holds Try.pinned (OpenSpec.upto fnExactSumOfTrackSpec)

end Rows
end Go.Proofs.Ytfhjngkcgdkoaaa
