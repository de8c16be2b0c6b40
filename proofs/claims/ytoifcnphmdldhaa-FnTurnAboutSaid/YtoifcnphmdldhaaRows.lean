/-
  No cell of these rows narrows 'for every input' (looked for: loops, veiled, ifaces, maps, wideKeys, modest, calm, conditions, laid).
  DERIVED. THE GIVEN ROWS OF THIS SEAT. 12 by the template 'for every input the law returns true; each argument reads behind the call as it read before'; 0 by the template 'total and deterministic' (their statements: YtoifcnphmdldhaaTotals.lean).
  GIVEN WITH THE SEED: the statements are not yours to turn. If you find one false, say at which input.
  Laid BY PROGRAM, IN A SANDBOX (cutbox-rows.mjs): the forced cells as the released guide's own fill.sh prints them over the translation 529e359f39bd82f2… (all of the seat's roots in one cut). By AI agents, Wed Nov 11 2026. No macro, syntax, notation, axiom, sorry.
-/
import Derived.Test.YtoifcnphmdldhaaChecked
import GoSem.Claim
import GoSem.ClaimJoined
import GoSem.ClaimMapViews
import Derived.JoinedTies
import Derived.KernelRfl
namespace Go.Proofs.Ytoifcnphmdldhaa
/- THE CELL 'sum', in the pinned program and in every row, IS THE sha256 OF THE DUMP (.gsa) THAT YtoifcnphmdldhaaProg.lean LOADS. Nothing in Lean hashes anything: it is a label: what it is worth is what the hold of that sum in a sandbox is worth. -/
noncomputable def Try.pinned : Pinned := { name := "ytoifcnphmdldhaa", sum := "529e359f39bd82f20342b28a2a0a0ef812e71dd2e847ea5348af589404ab3efd", checked := Try.checked }
namespace Rows
def none {H : Type} : Left H := { results := [], args := [] }

/-- 'laws.FnTurns': WHATEVER THE INPUT: true; the input reads as it did. -/
def fnTurnsSpec : ChangeSpec := { name := "fnTurns", fn := fun _ => fun
  | [d] => { results := [.lit (.bool true)], args := [d] }
  | _ => none }
def fnTurnsRow : OpenClaim := { program := "ytoifcnphmdldhaa", sum := "529e359f39bd82f20342b28a2a0a0ef812e71dd2e847ea5348af589404ab3efd", func := "loop.example/g03017/laws.FnTurns", spec := "fnTurns", apart := false }
def FnTurnsSaid : Prop := fnTurnsRow.holds Try.pinned (OpenSpec.ofChange fnTurnsSpec)

/-- ITS FALSE NEIGHBOUR: 'it returns false'. Refute it at one input. -/
def fnTurnsWrong : ChangeSpec := { name := "fnTurns", fn := fun _ => fun
  | [d] => { results := [.lit (.bool false)], args := [d] }
  | _ => none }
def FnTurnsWrongFalsely : Prop := fnTurnsRow.holds Try.pinned (OpenSpec.ofChange fnTurnsWrong)

/-- 'laws.FnTurnAbout': WHATEVER THE INPUT: true; the input reads as it did. -/
def fnTurnAboutSpec : ChangeSpec := { name := "fnTurnAbout", fn := fun _ => fun
  | [d] => { results := [.lit (.bool true)], args := [d] }
  | _ => none }
def fnTurnAboutRow : OpenClaim := { program := "ytoifcnphmdldhaa", sum := "529e359f39bd82f20342b28a2a0a0ef812e71dd2e847ea5348af589404ab3efd", func := "loop.example/g03017/laws.FnTurnAbout", spec := "fnTurnAbout", apart := false }
def FnTurnAboutSaid : Prop := fnTurnAboutRow.holds Try.pinned (OpenSpec.ofChange fnTurnAboutSpec)

/-- ITS FALSE NEIGHBOUR: 'it returns false'. Refute it at one input. -/
def fnTurnAboutWrong : ChangeSpec := { name := "fnTurnAbout", fn := fun _ => fun
  | [d] => { results := [.lit (.bool false)], args := [d] }
  | _ => none }
def FnTurnAboutWrongFalsely : Prop := fnTurnAboutRow.holds Try.pinned (OpenSpec.ofChange fnTurnAboutWrong)

/-- 'laws.FnSteps': WHATEVER THE INPUT: true; the input reads as it did. -/
def fnStepsSpec : ChangeSpec := { name := "fnSteps", fn := fun _ => fun
  | [d] => { results := [.lit (.bool true)], args := [d] }
  | _ => none }
def fnStepsRow : OpenClaim := { program := "ytoifcnphmdldhaa", sum := "529e359f39bd82f20342b28a2a0a0ef812e71dd2e847ea5348af589404ab3efd", func := "loop.example/g03017/laws.FnSteps", spec := "fnSteps", apart := false }
def FnStepsSaid : Prop := fnStepsRow.holds Try.pinned (OpenSpec.ofChange fnStepsSpec)

/-- ITS FALSE NEIGHBOUR: 'it returns false'. Refute it at one input. -/
def fnStepsWrong : ChangeSpec := { name := "fnSteps", fn := fun _ => fun
  | [d] => { results := [.lit (.bool false)], args := [d] }
  | _ => none }
def FnStepsWrongFalsely : Prop := fnStepsRow.holds Try.pinned (OpenSpec.ofChange fnStepsWrong)

/-- 'laws.FnBoxes': WHATEVER THE INPUT: true; the input reads as it did. -/
def fnBoxesSpec : ChangeSpec := { name := "fnBoxes", fn := fun _ => fun
  | [d] => { results := [.lit (.bool true)], args := [d] }
  | _ => none }
def fnBoxesRow : OpenClaim := { program := "ytoifcnphmdldhaa", sum := "529e359f39bd82f20342b28a2a0a0ef812e71dd2e847ea5348af589404ab3efd", func := "loop.example/g03017/laws.FnBoxes", spec := "fnBoxes", apart := false }
def FnBoxesSaid : Prop := fnBoxesRow.holds Try.pinned (OpenSpec.ofChange fnBoxesSpec)

/-- ITS FALSE NEIGHBOUR: 'it returns false'. Refute it at one input. -/
def fnBoxesWrong : ChangeSpec := { name := "fnBoxes", fn := fun _ => fun
  | [d] => { results := [.lit (.bool false)], args := [d] }
  | _ => none }
def FnBoxesWrongFalsely : Prop := fnBoxesRow.holds Try.pinned (OpenSpec.ofChange fnBoxesWrong)

/-- 'laws.FnExactAddPlaces': WHATEVER THE INPUT: true; the input reads as it did. -/
def fnExactAddPlacesSpec : ChangeSpec := { name := "fnExactAddPlaces", fn := fun _ => fun
  | [d1, d2] => { results := [.lit (.bool true)], args := [d1, d2] }
  | _ => none }
def fnExactAddPlacesRow : OpenClaim := { program := "ytoifcnphmdldhaa", sum := "529e359f39bd82f20342b28a2a0a0ef812e71dd2e847ea5348af589404ab3efd", func := "loop.example/g03017/laws.FnExactAddPlaces", spec := "fnExactAddPlaces", apart := false }
def FnExactAddPlacesSaid : Prop := fnExactAddPlacesRow.holds Try.pinned (OpenSpec.ofChange fnExactAddPlacesSpec)

/-- ITS FALSE NEIGHBOUR: 'it returns false'. Refute it at one input. -/
def fnExactAddPlacesWrong : ChangeSpec := { name := "fnExactAddPlaces", fn := fun _ => fun
  | [d1, d2] => { results := [.lit (.bool false)], args := [d1, d2] }
  | _ => none }
def FnExactAddPlacesWrongFalsely : Prop := fnExactAddPlacesRow.holds Try.pinned (OpenSpec.ofChange fnExactAddPlacesWrong)

/-- 'laws.FnExactTurnHeading': WHATEVER THE INPUT: true; the input reads as it did. -/
def fnExactTurnHeadingSpec : ChangeSpec := { name := "fnExactTurnHeading", fn := fun _ => fun
  | [d1, d2] => { results := [.lit (.bool true)], args := [d1, d2] }
  | _ => none }
def fnExactTurnHeadingRow : OpenClaim := { program := "ytoifcnphmdldhaa", sum := "529e359f39bd82f20342b28a2a0a0ef812e71dd2e847ea5348af589404ab3efd", func := "loop.example/g03017/laws.FnExactTurnHeading", spec := "fnExactTurnHeading", apart := false }
def FnExactTurnHeadingSaid : Prop := fnExactTurnHeadingRow.holds Try.pinned (OpenSpec.ofChange fnExactTurnHeadingSpec)

/-- ITS FALSE NEIGHBOUR: 'it returns false'. Refute it at one input. -/
def fnExactTurnHeadingWrong : ChangeSpec := { name := "fnExactTurnHeading", fn := fun _ => fun
  | [d1, d2] => { results := [.lit (.bool false)], args := [d1, d2] }
  | _ => none }
def FnExactTurnHeadingWrongFalsely : Prop := fnExactTurnHeadingRow.holds Try.pinned (OpenSpec.ofChange fnExactTurnHeadingWrong)

/-- 'laws.FnExactTurnPlace': WHATEVER THE INPUT: true; the input reads as it did. -/
def fnExactTurnPlaceSpec : ChangeSpec := { name := "fnExactTurnPlace", fn := fun _ => fun
  | [d1, d2] => { results := [.lit (.bool true)], args := [d1, d2] }
  | _ => none }
def fnExactTurnPlaceRow : OpenClaim := { program := "ytoifcnphmdldhaa", sum := "529e359f39bd82f20342b28a2a0a0ef812e71dd2e847ea5348af589404ab3efd", func := "loop.example/g03017/laws.FnExactTurnPlace", spec := "fnExactTurnPlace", apart := false }
def FnExactTurnPlaceSaid : Prop := fnExactTurnPlaceRow.holds Try.pinned (OpenSpec.ofChange fnExactTurnPlaceSpec)

/-- ITS FALSE NEIGHBOUR: 'it returns false'. Refute it at one input. -/
def fnExactTurnPlaceWrong : ChangeSpec := { name := "fnExactTurnPlace", fn := fun _ => fun
  | [d1, d2] => { results := [.lit (.bool false)], args := [d1, d2] }
  | _ => none }
def FnExactTurnPlaceWrongFalsely : Prop := fnExactTurnPlaceRow.holds Try.pinned (OpenSpec.ofChange fnExactTurnPlaceWrong)

/-- 'laws.FnExactBoxOf': WHATEVER THE INPUT: true; the input reads as it did. -/
def fnExactBoxOfSpec : ChangeSpec := { name := "fnExactBoxOf", fn := fun _ => fun
  | [d] => { results := [.lit (.bool true)], args := [d] }
  | _ => none }
def fnExactBoxOfRow : OpenClaim := { program := "ytoifcnphmdldhaa", sum := "529e359f39bd82f20342b28a2a0a0ef812e71dd2e847ea5348af589404ab3efd", func := "loop.example/g03017/laws.FnExactBoxOf", spec := "fnExactBoxOf", apart := false }
def FnExactBoxOfSaid : Prop := fnExactBoxOfRow.holds Try.pinned (OpenSpec.ofChange fnExactBoxOfSpec)

/-- ITS FALSE NEIGHBOUR: 'it returns false'. Refute it at one input. -/
def fnExactBoxOfWrong : ChangeSpec := { name := "fnExactBoxOf", fn := fun _ => fun
  | [d] => { results := [.lit (.bool false)], args := [d] }
  | _ => none }
def FnExactBoxOfWrongFalsely : Prop := fnExactBoxOfRow.holds Try.pinned (OpenSpec.ofChange fnExactBoxOfWrong)

/-- 'laws.FnExactTurnBox': WHATEVER THE INPUT: true; the input reads as it did. -/
def fnExactTurnBoxSpec : ChangeSpec := { name := "fnExactTurnBox", fn := fun _ => fun
  | [d1, d2] => { results := [.lit (.bool true)], args := [d1, d2] }
  | _ => none }
def fnExactTurnBoxRow : OpenClaim := { program := "ytoifcnphmdldhaa", sum := "529e359f39bd82f20342b28a2a0a0ef812e71dd2e847ea5348af589404ab3efd", func := "loop.example/g03017/laws.FnExactTurnBox", spec := "fnExactTurnBox", apart := false }
def FnExactTurnBoxSaid : Prop := fnExactTurnBoxRow.holds Try.pinned (OpenSpec.ofChange fnExactTurnBoxSpec)

/-- ITS FALSE NEIGHBOUR: 'it returns false'. Refute it at one input. -/
def fnExactTurnBoxWrong : ChangeSpec := { name := "fnExactTurnBox", fn := fun _ => fun
  | [d1, d2] => { results := [.lit (.bool false)], args := [d1, d2] }
  | _ => none }
def FnExactTurnBoxWrongFalsely : Prop := fnExactTurnBoxRow.holds Try.pinned (OpenSpec.ofChange fnExactTurnBoxWrong)

/-- 'laws.FnExactStepFrom': WHATEVER THE INPUT: true; the input reads as it did. -/
def fnExactStepFromSpec : ChangeSpec := { name := "fnExactStepFrom", fn := fun _ => fun
  | [d1, d2, d3] => { results := [.lit (.bool true)], args := [d1, d2, d3] }
  | _ => none }
def fnExactStepFromRow : OpenClaim := { program := "ytoifcnphmdldhaa", sum := "529e359f39bd82f20342b28a2a0a0ef812e71dd2e847ea5348af589404ab3efd", func := "loop.example/g03017/laws.FnExactStepFrom", spec := "fnExactStepFrom", apart := false }
def FnExactStepFromSaid : Prop := fnExactStepFromRow.holds Try.pinned (OpenSpec.ofChange fnExactStepFromSpec)

/-- ITS FALSE NEIGHBOUR: 'it returns false'. Refute it at one input. -/
def fnExactStepFromWrong : ChangeSpec := { name := "fnExactStepFrom", fn := fun _ => fun
  | [d1, d2, d3] => { results := [.lit (.bool false)], args := [d1, d2, d3] }
  | _ => none }
def FnExactStepFromWrongFalsely : Prop := fnExactStepFromRow.holds Try.pinned (OpenSpec.ofChange fnExactStepFromWrong)

/-- 'laws.FnExactTurnAbout': WHATEVER THE INPUT: true; the input reads as it did. -/
def fnExactTurnAboutSpec : ChangeSpec := { name := "fnExactTurnAbout", fn := fun _ => fun
  | [d1, d2, d3] => { results := [.lit (.bool true)], args := [d1, d2, d3] }
  | _ => none }
def fnExactTurnAboutRow : OpenClaim := { program := "ytoifcnphmdldhaa", sum := "529e359f39bd82f20342b28a2a0a0ef812e71dd2e847ea5348af589404ab3efd", func := "loop.example/g03017/laws.FnExactTurnAbout", spec := "fnExactTurnAbout", apart := false }
def FnExactTurnAboutSaid : Prop := fnExactTurnAboutRow.holds Try.pinned (OpenSpec.ofChange fnExactTurnAboutSpec)

/-- ITS FALSE NEIGHBOUR: 'it returns false'. Refute it at one input. -/
def fnExactTurnAboutWrong : ChangeSpec := { name := "fnExactTurnAbout", fn := fun _ => fun
  | [d1, d2, d3] => { results := [.lit (.bool false)], args := [d1, d2, d3] }
  | _ => none }
def FnExactTurnAboutWrongFalsely : Prop := fnExactTurnAboutRow.holds Try.pinned (OpenSpec.ofChange fnExactTurnAboutWrong)

/-- 'laws.FnExactInBox': WHATEVER THE INPUT: true; the input reads as it did. -/
def fnExactInBoxSpec : ChangeSpec := { name := "fnExactInBox", fn := fun _ => fun
  | [d1, d2] => { results := [.lit (.bool true)], args := [d1, d2] }
  | _ => none }
def fnExactInBoxRow : OpenClaim := { program := "ytoifcnphmdldhaa", sum := "529e359f39bd82f20342b28a2a0a0ef812e71dd2e847ea5348af589404ab3efd", func := "loop.example/g03017/laws.FnExactInBox", spec := "fnExactInBox", apart := false }
def FnExactInBoxSaid : Prop := fnExactInBoxRow.holds Try.pinned (OpenSpec.ofChange fnExactInBoxSpec)

/-- ITS FALSE NEIGHBOUR: 'it returns false'. Refute it at one input. -/
def fnExactInBoxWrong : ChangeSpec := { name := "fnExactInBox", fn := fun _ => fun
  | [d1, d2] => { results := [.lit (.bool false)], args := [d1, d2] }
  | _ => none }
def FnExactInBoxWrongFalsely : Prop := fnExactInBoxRow.holds Try.pinned (OpenSpec.ofChange fnExactInBoxWrong)

/- THE SECOND FORM. 'bulk': how many values and letters a reading holds, each counted each time it is reached (what is shared counts as often as it is met; a slice's spare places count too). A statement '..UptoSaid' is the law's where the arguments, and the package variables that the reading takes, are together of bulk at most 1048576: NARROWER than '..Said'. Prove '..Said' where nothing that the law and all that it calls make is longer than what came in: it says more and counts as full. Else prove '..UptoSaid'. A law counts once. -/
mutual
def uptoBulk {H : Type} : DataW H → Nat
  | .lit (.string bytes) => bytes.length + 1
  | .lit _ => 1
  | .nil => 1
  | .ptr d => uptoBulk d + 1
  | .slice elems spare => uptoBulkAll elems + uptoBulkAll spare + 1
  | .agg parts => uptoBulkAll parts + 1
  | .iface _ d => uptoBulk d + 1
  | .map entries => uptoBulkEntries entries + 1
  | .held _ => 1
def uptoBulkAll {H : Type} : List (DataW H) → Nat
  | [] => 0
  | d :: r => uptoBulk d + uptoBulkAll r
def uptoBulkEntries {H : Type} : List (Lit × DataW H) → Nat
  | [] => 0
  | x :: r => uptoBulkEntry x + uptoBulkEntries r
def uptoBulkEntry {H : Type} : Lit × DataW H → Nat
  | (.string bytes, d) => bytes.length + uptoBulk d + 1
  | (_, d) => uptoBulk d + 1
 end
def uptoSmall : (H : Type) → List (DataW H) → Bool := fun _ ds => decide (uptoBulkAll ds ≤ 1048576)
def OpenSpec.upto (s : _root_.Go.ChangeSpec) : _root_.Go.OpenSpec := { _root_.Go.OpenSpec.ofChange s with cond := some uptoSmall }

/-- 'laws.FnTurns', WHERE WHAT IT READS IS OF BULK AT MOST 1048576: true; the input reads as it did. -/
def fnTurnsUptoRow : OpenClaim := { program := "ytoifcnphmdldhaa", sum := "529e359f39bd82f20342b28a2a0a0ef812e71dd2e847ea5348af589404ab3efd", func := "loop.example/g03017/laws.FnTurns", spec := "fnTurns", apart := false, narrowed := true }
def FnTurnsUptoSaid : Prop := fnTurnsUptoRow.holds Try.pinned (OpenSpec.upto fnTurnsSpec)

/-- 'laws.FnTurnAbout', WHERE WHAT IT READS IS OF BULK AT MOST 1048576: true; the input reads as it did. -/
def fnTurnAboutUptoRow : OpenClaim := { program := "ytoifcnphmdldhaa", sum := "529e359f39bd82f20342b28a2a0a0ef812e71dd2e847ea5348af589404ab3efd", func := "loop.example/g03017/laws.FnTurnAbout", spec := "fnTurnAbout", apart := false, narrowed := true }
def FnTurnAboutUptoSaid : Prop := fnTurnAboutUptoRow.holds Try.pinned (OpenSpec.upto fnTurnAboutSpec)

/-- 'laws.FnSteps', WHERE WHAT IT READS IS OF BULK AT MOST 1048576: true; the input reads as it did. -/
def fnStepsUptoRow : OpenClaim := { program := "ytoifcnphmdldhaa", sum := "529e359f39bd82f20342b28a2a0a0ef812e71dd2e847ea5348af589404ab3efd", func := "loop.example/g03017/laws.FnSteps", spec := "fnSteps", apart := false, narrowed := true }
def FnStepsUptoSaid : Prop := fnStepsUptoRow.holds Try.pinned (OpenSpec.upto fnStepsSpec)

/-- 'laws.FnBoxes', WHERE WHAT IT READS IS OF BULK AT MOST 1048576: true; the input reads as it did. -/
def fnBoxesUptoRow : OpenClaim := { program := "ytoifcnphmdldhaa", sum := "529e359f39bd82f20342b28a2a0a0ef812e71dd2e847ea5348af589404ab3efd", func := "loop.example/g03017/laws.FnBoxes", spec := "fnBoxes", apart := false, narrowed := true }
def FnBoxesUptoSaid : Prop := fnBoxesUptoRow.holds Try.pinned (OpenSpec.upto fnBoxesSpec)

/-- 'laws.FnExactAddPlaces', WHERE WHAT IT READS IS OF BULK AT MOST 1048576: true; the input reads as it did. -/
def fnExactAddPlacesUptoRow : OpenClaim := { program := "ytoifcnphmdldhaa", sum := "529e359f39bd82f20342b28a2a0a0ef812e71dd2e847ea5348af589404ab3efd", func := "loop.example/g03017/laws.FnExactAddPlaces", spec := "fnExactAddPlaces", apart := false, narrowed := true }
def FnExactAddPlacesUptoSaid : Prop := fnExactAddPlacesUptoRow.holds Try.pinned (OpenSpec.upto fnExactAddPlacesSpec)

/-- 'laws.FnExactTurnHeading', WHERE WHAT IT READS IS OF BULK AT MOST 1048576: true; the input reads as it did. -/
def fnExactTurnHeadingUptoRow : OpenClaim := { program := "ytoifcnphmdldhaa", sum := "529e359f39bd82f20342b28a2a0a0ef812e71dd2e847ea5348af589404ab3efd", func := "loop.example/g03017/laws.FnExactTurnHeading", spec := "fnExactTurnHeading", apart := false, narrowed := true }
def FnExactTurnHeadingUptoSaid : Prop := fnExactTurnHeadingUptoRow.holds Try.pinned (OpenSpec.upto fnExactTurnHeadingSpec)

/-- 'laws.FnExactTurnPlace', WHERE WHAT IT READS IS OF BULK AT MOST 1048576: true; the input reads as it did. -/
def fnExactTurnPlaceUptoRow : OpenClaim := { program := "ytoifcnphmdldhaa", sum := "529e359f39bd82f20342b28a2a0a0ef812e71dd2e847ea5348af589404ab3efd", func := "loop.example/g03017/laws.FnExactTurnPlace", spec := "fnExactTurnPlace", apart := false, narrowed := true }
def FnExactTurnPlaceUptoSaid : Prop := fnExactTurnPlaceUptoRow.holds Try.pinned (OpenSpec.upto fnExactTurnPlaceSpec)

/-- 'laws.FnExactBoxOf', WHERE WHAT IT READS IS OF BULK AT MOST 1048576: true; the input reads as it did. -/
def fnExactBoxOfUptoRow : OpenClaim := { program := "ytoifcnphmdldhaa", sum := "529e359f39bd82f20342b28a2a0a0ef812e71dd2e847ea5348af589404ab3efd", func := "loop.example/g03017/laws.FnExactBoxOf", spec := "fnExactBoxOf", apart := false, narrowed := true }
def FnExactBoxOfUptoSaid : Prop := fnExactBoxOfUptoRow.holds Try.pinned (OpenSpec.upto fnExactBoxOfSpec)

/-- 'laws.FnExactTurnBox', WHERE WHAT IT READS IS OF BULK AT MOST 1048576: true; the input reads as it did. -/
def fnExactTurnBoxUptoRow : OpenClaim := { program := "ytoifcnphmdldhaa", sum := "529e359f39bd82f20342b28a2a0a0ef812e71dd2e847ea5348af589404ab3efd", func := "loop.example/g03017/laws.FnExactTurnBox", spec := "fnExactTurnBox", apart := false, narrowed := true }
def FnExactTurnBoxUptoSaid : Prop := fnExactTurnBoxUptoRow.holds Try.pinned (OpenSpec.upto fnExactTurnBoxSpec)

/-- 'laws.FnExactStepFrom', WHERE WHAT IT READS IS OF BULK AT MOST 1048576: true; the input reads as it did. -/
def fnExactStepFromUptoRow : OpenClaim := { program := "ytoifcnphmdldhaa", sum := "529e359f39bd82f20342b28a2a0a0ef812e71dd2e847ea5348af589404ab3efd", func := "loop.example/g03017/laws.FnExactStepFrom", spec := "fnExactStepFrom", apart := false, narrowed := true }
def FnExactStepFromUptoSaid : Prop := fnExactStepFromUptoRow.holds Try.pinned (OpenSpec.upto fnExactStepFromSpec)

/-- 'laws.FnExactTurnAbout', WHERE WHAT IT READS IS OF BULK AT MOST 1048576: true; the input reads as it did. -/
def fnExactTurnAboutUptoRow : OpenClaim := { program := "ytoifcnphmdldhaa", sum := "529e359f39bd82f20342b28a2a0a0ef812e71dd2e847ea5348af589404ab3efd", func := "loop.example/g03017/laws.FnExactTurnAbout", spec := "fnExactTurnAbout", apart := false, narrowed := true }
def FnExactTurnAboutUptoSaid : Prop := fnExactTurnAboutUptoRow.holds Try.pinned (OpenSpec.upto fnExactTurnAboutSpec)

/-- 'laws.FnExactInBox', WHERE WHAT IT READS IS OF BULK AT MOST 1048576: true; the input reads as it did. -/
def fnExactInBoxUptoRow : OpenClaim := { program := "ytoifcnphmdldhaa", sum := "529e359f39bd82f20342b28a2a0a0ef812e71dd2e847ea5348af589404ab3efd", func := "loop.example/g03017/laws.FnExactInBox", spec := "fnExactInBox", apart := false, narrowed := true }
def FnExactInBoxUptoSaid : Prop := fnExactInBoxUptoRow.holds Try.pinned (OpenSpec.upto fnExactInBoxSpec)

end Rows
end Go.Proofs.Ytoifcnphmdldhaa
