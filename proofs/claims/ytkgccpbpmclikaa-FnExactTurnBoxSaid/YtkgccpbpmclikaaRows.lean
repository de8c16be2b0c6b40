/-
  No cell of these rows narrows 'for every input' (looked for: loops, veiled, ifaces, maps, wideKeys, modest, calm, conditions, laid).
  DERIVED. THE GIVEN ROWS OF THIS SEAT. 12 by the template 'for every input the law returns true; each argument reads behind the call as it read before'; 0 by the template 'total and deterministic' (their statements: YtkgccpbpmclikaaTotals.lean).
  GIVEN WITH THE SEED: the statements are not yours to turn. If you find one false, say at which input.
  Laid BY PROGRAM, IN A SANDBOX (cutbox-rows.mjs): the forced cells as the released guide's own fill.sh prints them over the translation 6ab5a385e92216a2… (all of the seat's roots in one cut). By AI agents, Wed Nov 11 2026. No macro, syntax, notation, axiom, sorry.
-/
import Derived.Test.YtkgccpbpmclikaaChecked
import GoSem.Claim
import GoSem.ClaimJoined
import GoSem.ClaimMapViews
import Derived.JoinedTies
import Derived.KernelRfl
namespace Go.Proofs.Ytkgccpbpmclikaa
/- THE CELL 'sum', in the pinned program and in every row, IS THE sha256 OF THE DUMP (.gsa) THAT YtkgccpbpmclikaaProg.lean LOADS. Nothing in Lean hashes anything: it is a label: what it is worth is what the hold of that sum in a sandbox is worth. -/
noncomputable def Try.pinned : Pinned := { name := "ytkgccpbpmclikaa", sum := "6ab5a385e92216a2ff41d21b4472542e8009e417cc4f7b4b758226ec80163530", checked := Try.checked }
namespace Rows
def none {H : Type} : Left H := { results := [], args := [] }

/-- 'laws.FnExactIsPlace': WHATEVER THE INPUT: true; the input reads as it did. -/
def fnExactIsPlaceSpec : ChangeSpec := { name := "fnExactIsPlace", fn := fun _ => fun
  | [d] => { results := [.lit (.bool true)], args := [d] }
  | _ => none }
def fnExactIsPlaceRow : OpenClaim := { program := "ytkgccpbpmclikaa", sum := "6ab5a385e92216a2ff41d21b4472542e8009e417cc4f7b4b758226ec80163530", func := "loop.example/g03017/laws.FnExactIsPlace", spec := "fnExactIsPlace", apart := false }
def FnExactIsPlaceSaid : Prop := fnExactIsPlaceRow.holds Try.pinned (OpenSpec.ofChange fnExactIsPlaceSpec)

/-- ITS FALSE NEIGHBOUR: 'it returns false'. Refute it at one input. -/
def fnExactIsPlaceWrong : ChangeSpec := { name := "fnExactIsPlace", fn := fun _ => fun
  | [d] => { results := [.lit (.bool false)], args := [d] }
  | _ => none }
def FnExactIsPlaceWrongFalsely : Prop := fnExactIsPlaceRow.holds Try.pinned (OpenSpec.ofChange fnExactIsPlaceWrong)

/-- 'laws.FnExactIsHeading': WHATEVER THE INPUT: true; the input reads as it did. -/
def fnExactIsHeadingSpec : ChangeSpec := { name := "fnExactIsHeading", fn := fun _ => fun
  | [d] => { results := [.lit (.bool true)], args := [d] }
  | _ => none }
def fnExactIsHeadingRow : OpenClaim := { program := "ytkgccpbpmclikaa", sum := "6ab5a385e92216a2ff41d21b4472542e8009e417cc4f7b4b758226ec80163530", func := "loop.example/g03017/laws.FnExactIsHeading", spec := "fnExactIsHeading", apart := false }
def FnExactIsHeadingSaid : Prop := fnExactIsHeadingRow.holds Try.pinned (OpenSpec.ofChange fnExactIsHeadingSpec)

/-- ITS FALSE NEIGHBOUR: 'it returns false'. Refute it at one input. -/
def fnExactIsHeadingWrong : ChangeSpec := { name := "fnExactIsHeading", fn := fun _ => fun
  | [d] => { results := [.lit (.bool false)], args := [d] }
  | _ => none }
def FnExactIsHeadingWrongFalsely : Prop := fnExactIsHeadingRow.holds Try.pinned (OpenSpec.ofChange fnExactIsHeadingWrong)

/-- 'laws.FnExactTurnHeading': WHATEVER THE INPUT: true; the input reads as it did. -/
def fnExactTurnHeadingSpec : ChangeSpec := { name := "fnExactTurnHeading", fn := fun _ => fun
  | [d1, d2] => { results := [.lit (.bool true)], args := [d1, d2] }
  | _ => none }
def fnExactTurnHeadingRow : OpenClaim := { program := "ytkgccpbpmclikaa", sum := "6ab5a385e92216a2ff41d21b4472542e8009e417cc4f7b4b758226ec80163530", func := "loop.example/g03017/laws.FnExactTurnHeading", spec := "fnExactTurnHeading", apart := false }
def FnExactTurnHeadingSaid : Prop := fnExactTurnHeadingRow.holds Try.pinned (OpenSpec.ofChange fnExactTurnHeadingSpec)

/-- ITS FALSE NEIGHBOUR: 'it returns false'. Refute it at one input. -/
def fnExactTurnHeadingWrong : ChangeSpec := { name := "fnExactTurnHeading", fn := fun _ => fun
  | [d1, d2] => { results := [.lit (.bool false)], args := [d1, d2] }
  | _ => none }
def FnExactTurnHeadingWrongFalsely : Prop := fnExactTurnHeadingRow.holds Try.pinned (OpenSpec.ofChange fnExactTurnHeadingWrong)

/-- 'laws.FnExactTurnPlace': WHATEVER THE INPUT: true; the input reads as it did. -/
def fnExactTurnPlaceSpec : ChangeSpec := { name := "fnExactTurnPlace", fn := fun _ => fun
  | [d1, d2] => { results := [.lit (.bool true)], args := [d1, d2] }
  | _ => none }
def fnExactTurnPlaceRow : OpenClaim := { program := "ytkgccpbpmclikaa", sum := "6ab5a385e92216a2ff41d21b4472542e8009e417cc4f7b4b758226ec80163530", func := "loop.example/g03017/laws.FnExactTurnPlace", spec := "fnExactTurnPlace", apart := false }
def FnExactTurnPlaceSaid : Prop := fnExactTurnPlaceRow.holds Try.pinned (OpenSpec.ofChange fnExactTurnPlaceSpec)

/-- ITS FALSE NEIGHBOUR: 'it returns false'. Refute it at one input. -/
def fnExactTurnPlaceWrong : ChangeSpec := { name := "fnExactTurnPlace", fn := fun _ => fun
  | [d1, d2] => { results := [.lit (.bool false)], args := [d1, d2] }
  | _ => none }
def FnExactTurnPlaceWrongFalsely : Prop := fnExactTurnPlaceRow.holds Try.pinned (OpenSpec.ofChange fnExactTurnPlaceWrong)

/-- 'laws.FnExactTurnAbout': WHATEVER THE INPUT: true; the input reads as it did. -/
def fnExactTurnAboutSpec : ChangeSpec := { name := "fnExactTurnAbout", fn := fun _ => fun
  | [d1, d2, d3] => { results := [.lit (.bool true)], args := [d1, d2, d3] }
  | _ => none }
def fnExactTurnAboutRow : OpenClaim := { program := "ytkgccpbpmclikaa", sum := "6ab5a385e92216a2ff41d21b4472542e8009e417cc4f7b4b758226ec80163530", func := "loop.example/g03017/laws.FnExactTurnAbout", spec := "fnExactTurnAbout", apart := false }
def FnExactTurnAboutSaid : Prop := fnExactTurnAboutRow.holds Try.pinned (OpenSpec.ofChange fnExactTurnAboutSpec)

/-- ITS FALSE NEIGHBOUR: 'it returns false'. Refute it at one input. -/
def fnExactTurnAboutWrong : ChangeSpec := { name := "fnExactTurnAbout", fn := fun _ => fun
  | [d1, d2, d3] => { results := [.lit (.bool false)], args := [d1, d2, d3] }
  | _ => none }
def FnExactTurnAboutWrongFalsely : Prop := fnExactTurnAboutRow.holds Try.pinned (OpenSpec.ofChange fnExactTurnAboutWrong)

/-- 'laws.FnExactAddPlaces': WHATEVER THE INPUT: true; the input reads as it did. -/
def fnExactAddPlacesSpec : ChangeSpec := { name := "fnExactAddPlaces", fn := fun _ => fun
  | [d1, d2] => { results := [.lit (.bool true)], args := [d1, d2] }
  | _ => none }
def fnExactAddPlacesRow : OpenClaim := { program := "ytkgccpbpmclikaa", sum := "6ab5a385e92216a2ff41d21b4472542e8009e417cc4f7b4b758226ec80163530", func := "loop.example/g03017/laws.FnExactAddPlaces", spec := "fnExactAddPlaces", apart := false }
def FnExactAddPlacesSaid : Prop := fnExactAddPlacesRow.holds Try.pinned (OpenSpec.ofChange fnExactAddPlacesSpec)

/-- ITS FALSE NEIGHBOUR: 'it returns false'. Refute it at one input. -/
def fnExactAddPlacesWrong : ChangeSpec := { name := "fnExactAddPlaces", fn := fun _ => fun
  | [d1, d2] => { results := [.lit (.bool false)], args := [d1, d2] }
  | _ => none }
def FnExactAddPlacesWrongFalsely : Prop := fnExactAddPlacesRow.holds Try.pinned (OpenSpec.ofChange fnExactAddPlacesWrong)

/-- 'laws.FnExactStepFrom': WHATEVER THE INPUT: true; the input reads as it did. -/
def fnExactStepFromSpec : ChangeSpec := { name := "fnExactStepFrom", fn := fun _ => fun
  | [d1, d2, d3] => { results := [.lit (.bool true)], args := [d1, d2, d3] }
  | _ => none }
def fnExactStepFromRow : OpenClaim := { program := "ytkgccpbpmclikaa", sum := "6ab5a385e92216a2ff41d21b4472542e8009e417cc4f7b4b758226ec80163530", func := "loop.example/g03017/laws.FnExactStepFrom", spec := "fnExactStepFrom", apart := false }
def FnExactStepFromSaid : Prop := fnExactStepFromRow.holds Try.pinned (OpenSpec.ofChange fnExactStepFromSpec)

/-- ITS FALSE NEIGHBOUR: 'it returns false'. Refute it at one input. -/
def fnExactStepFromWrong : ChangeSpec := { name := "fnExactStepFrom", fn := fun _ => fun
  | [d1, d2, d3] => { results := [.lit (.bool false)], args := [d1, d2, d3] }
  | _ => none }
def FnExactStepFromWrongFalsely : Prop := fnExactStepFromRow.holds Try.pinned (OpenSpec.ofChange fnExactStepFromWrong)

/-- 'laws.FnExactComparePlaces': WHATEVER THE INPUT: true; the input reads as it did. -/
def fnExactComparePlacesSpec : ChangeSpec := { name := "fnExactComparePlaces", fn := fun _ => fun
  | [d1, d2] => { results := [.lit (.bool true)], args := [d1, d2] }
  | _ => none }
def fnExactComparePlacesRow : OpenClaim := { program := "ytkgccpbpmclikaa", sum := "6ab5a385e92216a2ff41d21b4472542e8009e417cc4f7b4b758226ec80163530", func := "loop.example/g03017/laws.FnExactComparePlaces", spec := "fnExactComparePlaces", apart := false }
def FnExactComparePlacesSaid : Prop := fnExactComparePlacesRow.holds Try.pinned (OpenSpec.ofChange fnExactComparePlacesSpec)

/-- ITS FALSE NEIGHBOUR: 'it returns false'. Refute it at one input. -/
def fnExactComparePlacesWrong : ChangeSpec := { name := "fnExactComparePlaces", fn := fun _ => fun
  | [d1, d2] => { results := [.lit (.bool false)], args := [d1, d2] }
  | _ => none }
def FnExactComparePlacesWrongFalsely : Prop := fnExactComparePlacesRow.holds Try.pinned (OpenSpec.ofChange fnExactComparePlacesWrong)

/-- 'laws.FnExactIsBox': WHATEVER THE INPUT: true; the input reads as it did. -/
def fnExactIsBoxSpec : ChangeSpec := { name := "fnExactIsBox", fn := fun _ => fun
  | [d] => { results := [.lit (.bool true)], args := [d] }
  | _ => none }
def fnExactIsBoxRow : OpenClaim := { program := "ytkgccpbpmclikaa", sum := "6ab5a385e92216a2ff41d21b4472542e8009e417cc4f7b4b758226ec80163530", func := "loop.example/g03017/laws.FnExactIsBox", spec := "fnExactIsBox", apart := false }
def FnExactIsBoxSaid : Prop := fnExactIsBoxRow.holds Try.pinned (OpenSpec.ofChange fnExactIsBoxSpec)

/-- ITS FALSE NEIGHBOUR: 'it returns false'. Refute it at one input. -/
def fnExactIsBoxWrong : ChangeSpec := { name := "fnExactIsBox", fn := fun _ => fun
  | [d] => { results := [.lit (.bool false)], args := [d] }
  | _ => none }
def FnExactIsBoxWrongFalsely : Prop := fnExactIsBoxRow.holds Try.pinned (OpenSpec.ofChange fnExactIsBoxWrong)

/-- 'laws.FnExactInBox': WHATEVER THE INPUT: true; the input reads as it did. -/
def fnExactInBoxSpec : ChangeSpec := { name := "fnExactInBox", fn := fun _ => fun
  | [d1, d2] => { results := [.lit (.bool true)], args := [d1, d2] }
  | _ => none }
def fnExactInBoxRow : OpenClaim := { program := "ytkgccpbpmclikaa", sum := "6ab5a385e92216a2ff41d21b4472542e8009e417cc4f7b4b758226ec80163530", func := "loop.example/g03017/laws.FnExactInBox", spec := "fnExactInBox", apart := false }
def FnExactInBoxSaid : Prop := fnExactInBoxRow.holds Try.pinned (OpenSpec.ofChange fnExactInBoxSpec)

/-- ITS FALSE NEIGHBOUR: 'it returns false'. Refute it at one input. -/
def fnExactInBoxWrong : ChangeSpec := { name := "fnExactInBox", fn := fun _ => fun
  | [d1, d2] => { results := [.lit (.bool false)], args := [d1, d2] }
  | _ => none }
def FnExactInBoxWrongFalsely : Prop := fnExactInBoxRow.holds Try.pinned (OpenSpec.ofChange fnExactInBoxWrong)

/-- 'laws.FnExactBoxOf': WHATEVER THE INPUT: true; the input reads as it did. -/
def fnExactBoxOfSpec : ChangeSpec := { name := "fnExactBoxOf", fn := fun _ => fun
  | [d] => { results := [.lit (.bool true)], args := [d] }
  | _ => none }
def fnExactBoxOfRow : OpenClaim := { program := "ytkgccpbpmclikaa", sum := "6ab5a385e92216a2ff41d21b4472542e8009e417cc4f7b4b758226ec80163530", func := "loop.example/g03017/laws.FnExactBoxOf", spec := "fnExactBoxOf", apart := false }
def FnExactBoxOfSaid : Prop := fnExactBoxOfRow.holds Try.pinned (OpenSpec.ofChange fnExactBoxOfSpec)

/-- ITS FALSE NEIGHBOUR: 'it returns false'. Refute it at one input. -/
def fnExactBoxOfWrong : ChangeSpec := { name := "fnExactBoxOf", fn := fun _ => fun
  | [d] => { results := [.lit (.bool false)], args := [d] }
  | _ => none }
def FnExactBoxOfWrongFalsely : Prop := fnExactBoxOfRow.holds Try.pinned (OpenSpec.ofChange fnExactBoxOfWrong)

/-- 'laws.FnExactTurnBox': WHATEVER THE INPUT: true; the input reads as it did. -/
def fnExactTurnBoxSpec : ChangeSpec := { name := "fnExactTurnBox", fn := fun _ => fun
  | [d1, d2] => { results := [.lit (.bool true)], args := [d1, d2] }
  | _ => none }
def fnExactTurnBoxRow : OpenClaim := { program := "ytkgccpbpmclikaa", sum := "6ab5a385e92216a2ff41d21b4472542e8009e417cc4f7b4b758226ec80163530", func := "loop.example/g03017/laws.FnExactTurnBox", spec := "fnExactTurnBox", apart := false }
def FnExactTurnBoxSaid : Prop := fnExactTurnBoxRow.holds Try.pinned (OpenSpec.ofChange fnExactTurnBoxSpec)

/-- ITS FALSE NEIGHBOUR: 'it returns false'. Refute it at one input. -/
def fnExactTurnBoxWrong : ChangeSpec := { name := "fnExactTurnBox", fn := fun _ => fun
  | [d1, d2] => { results := [.lit (.bool false)], args := [d1, d2] }
  | _ => none }
def FnExactTurnBoxWrongFalsely : Prop := fnExactTurnBoxRow.holds Try.pinned (OpenSpec.ofChange fnExactTurnBoxWrong)

/- THE SECOND FORM. 'bulk': how many values and letters a reading holds, each counted each time it is reached (what is shared counts as often as it is met; a slice's spare places count too). A statement '..UptoSaid' is the law's where the arguments, and the package variables that the reading takes, are together of bulk at most 1048576: NARROWER than '..Said'. Prove '..Said' where nothing that the law and all that it calls make is longer than what came in: it says more and counts as full. Else prove '..UptoSaid'. A law counts once. -/
mutual
def uptoBulk {H : Type} : DataW H → Nat
  | .lit (.string bytes) => bytes.length + 1
  | .lit _ => 1
  | .nil => 1
  | .ptr d => uptoBulk d + 1
  | .slice elems spare => uptoBulkAll elems + uptoBulkAll spare + 1
  | .agg parts => uptoBulkAll parts + 1
  | .iface _ d => uptoBulk d + 1
  | .map entries => uptoBulkEntries entries + 1
  | .held _ => 1
def uptoBulkAll {H : Type} : List (DataW H) → Nat
  | [] => 0
  | d :: r => uptoBulk d + uptoBulkAll r
def uptoBulkEntries {H : Type} : List (Lit × DataW H) → Nat
  | [] => 0
  | x :: r => uptoBulkEntry x + uptoBulkEntries r
def uptoBulkEntry {H : Type} : Lit × DataW H → Nat
  | (.string bytes, d) => bytes.length + uptoBulk d + 1
  | (_, d) => uptoBulk d + 1
 end
def uptoSmall : (H : Type) → List (DataW H) → Bool := fun _ ds => decide (uptoBulkAll ds ≤ 1048576)
def OpenSpec.upto (s : _root_.Go.ChangeSpec) : _root_.Go.OpenSpec := { _root_.Go.OpenSpec.ofChange s with cond := some uptoSmall }

/-- 'laws.FnExactIsPlace', WHERE WHAT IT READS IS OF BULK AT MOST 1048576: true; the input reads as it did. -/
def fnExactIsPlaceUptoRow : OpenClaim := { program := "ytkgccpbpmclikaa", sum := "6ab5a385e92216a2ff41d21b4472542e8009e417cc4f7b4b758226ec80163530", func := "loop.example/g03017/laws.FnExactIsPlace", spec := "fnExactIsPlace", apart := false, narrowed := true }
def FnExactIsPlaceUptoSaid : Prop := fnExactIsPlaceUptoRow.holds Try.pinned (OpenSpec.upto fnExactIsPlaceSpec)

/-- 'laws.FnExactIsHeading', WHERE WHAT IT READS IS OF BULK AT MOST 1048576: true; the input reads as it did. -/
def fnExactIsHeadingUptoRow : OpenClaim := { program := "ytkgccpbpmclikaa", sum := "6ab5a385e92216a2ff41d21b4472542e8009e417cc4f7b4b758226ec80163530", func := "loop.example/g03017/laws.FnExactIsHeading", spec := "fnExactIsHeading", apart := false, narrowed := true }
def FnExactIsHeadingUptoSaid : Prop := fnExactIsHeadingUptoRow.holds Try.pinned (OpenSpec.upto fnExactIsHeadingSpec)

/-- 'laws.FnExactTurnHeading', WHERE WHAT IT READS IS OF BULK AT MOST 1048576: true; the input reads as it did. -/
def fnExactTurnHeadingUptoRow : OpenClaim := { program := "ytkgccpbpmclikaa", sum := "6ab5a385e92216a2ff41d21b4472542e8009e417cc4f7b4b758226ec80163530", func := "loop.example/g03017/laws.FnExactTurnHeading", spec := "fnExactTurnHeading", apart := false, narrowed := true }
def FnExactTurnHeadingUptoSaid : Prop := fnExactTurnHeadingUptoRow.holds Try.pinned (OpenSpec.upto fnExactTurnHeadingSpec)

/-- 'laws.FnExactTurnPlace', WHERE WHAT IT READS IS OF BULK AT MOST 1048576: true; the input reads as it did. -/
def fnExactTurnPlaceUptoRow : OpenClaim := { program := "ytkgccpbpmclikaa", sum := "6ab5a385e92216a2ff41d21b4472542e8009e417cc4f7b4b758226ec80163530", func := "loop.example/g03017/laws.FnExactTurnPlace", spec := "fnExactTurnPlace", apart := false, narrowed := true }
def FnExactTurnPlaceUptoSaid : Prop := fnExactTurnPlaceUptoRow.holds Try.pinned (OpenSpec.upto fnExactTurnPlaceSpec)

/-- 'laws.FnExactTurnAbout', WHERE WHAT IT READS IS OF BULK AT MOST 1048576: true; the input reads as it did. -/
def fnExactTurnAboutUptoRow : OpenClaim := { program := "ytkgccpbpmclikaa", sum := "6ab5a385e92216a2ff41d21b4472542e8009e417cc4f7b4b758226ec80163530", func := "loop.example/g03017/laws.FnExactTurnAbout", spec := "fnExactTurnAbout", apart := false, narrowed := true }
def FnExactTurnAboutUptoSaid : Prop := fnExactTurnAboutUptoRow.holds Try.pinned (OpenSpec.upto fnExactTurnAboutSpec)

/-- 'laws.FnExactAddPlaces', WHERE WHAT IT READS IS OF BULK AT MOST 1048576: true; the input reads as it did. -/
def fnExactAddPlacesUptoRow : OpenClaim := { program := "ytkgccpbpmclikaa", sum := "6ab5a385e92216a2ff41d21b4472542e8009e417cc4f7b4b758226ec80163530", func := "loop.example/g03017/laws.FnExactAddPlaces", spec := "fnExactAddPlaces", apart := false, narrowed := true }
def FnExactAddPlacesUptoSaid : Prop := fnExactAddPlacesUptoRow.holds Try.pinned (OpenSpec.upto fnExactAddPlacesSpec)

/-- 'laws.FnExactStepFrom', WHERE WHAT IT READS IS OF BULK AT MOST 1048576: true; the input reads as it did. -/
def fnExactStepFromUptoRow : OpenClaim := { program := "ytkgccpbpmclikaa", sum := "6ab5a385e92216a2ff41d21b4472542e8009e417cc4f7b4b758226ec80163530", func := "loop.example/g03017/laws.FnExactStepFrom", spec := "fnExactStepFrom", apart := false, narrowed := true }
def FnExactStepFromUptoSaid : Prop := fnExactStepFromUptoRow.holds Try.pinned (OpenSpec.upto fnExactStepFromSpec)

/-- 'laws.FnExactComparePlaces', WHERE WHAT IT READS IS OF BULK AT MOST 1048576: true; the input reads as it did. -/
def fnExactComparePlacesUptoRow : OpenClaim := { program := "ytkgccpbpmclikaa", sum := "6ab5a385e92216a2ff41d21b4472542e8009e417cc4f7b4b758226ec80163530", func := "loop.example/g03017/laws.FnExactComparePlaces", spec := "fnExactComparePlaces", apart := false, narrowed := true }
def FnExactComparePlacesUptoSaid : Prop := fnExactComparePlacesUptoRow.holds Try.pinned (OpenSpec.upto fnExactComparePlacesSpec)

/-- 'laws.FnExactIsBox', WHERE WHAT IT READS IS OF BULK AT MOST 1048576: true; the input reads as it did. -/
def fnExactIsBoxUptoRow : OpenClaim := { program := "ytkgccpbpmclikaa", sum := "6ab5a385e92216a2ff41d21b4472542e8009e417cc4f7b4b758226ec80163530", func := "loop.example/g03017/laws.FnExactIsBox", spec := "fnExactIsBox", apart := false, narrowed := true }
def FnExactIsBoxUptoSaid : Prop := fnExactIsBoxUptoRow.holds Try.pinned (OpenSpec.upto fnExactIsBoxSpec)

/-- 'laws.FnExactInBox', WHERE WHAT IT READS IS OF BULK AT MOST 1048576: true; the input reads as it did. -/
def fnExactInBoxUptoRow : OpenClaim := { program := "ytkgccpbpmclikaa", sum := "6ab5a385e92216a2ff41d21b4472542e8009e417cc4f7b4b758226ec80163530", func := "loop.example/g03017/laws.FnExactInBox", spec := "fnExactInBox", apart := false, narrowed := true }
def FnExactInBoxUptoSaid : Prop := fnExactInBoxUptoRow.holds Try.pinned (OpenSpec.upto fnExactInBoxSpec)

/-- 'laws.FnExactBoxOf', WHERE WHAT IT READS IS OF BULK AT MOST 1048576: true; the input reads as it did. -/
def fnExactBoxOfUptoRow : OpenClaim := { program := "ytkgccpbpmclikaa", sum := "6ab5a385e92216a2ff41d21b4472542e8009e417cc4f7b4b758226ec80163530", func := "loop.example/g03017/laws.FnExactBoxOf", spec := "fnExactBoxOf", apart := false, narrowed := true }
def FnExactBoxOfUptoSaid : Prop := fnExactBoxOfUptoRow.holds Try.pinned (OpenSpec.upto fnExactBoxOfSpec)

/-- 'laws.FnExactTurnBox', WHERE WHAT IT READS IS OF BULK AT MOST 1048576: true; the input reads as it did. -/
def fnExactTurnBoxUptoRow : OpenClaim := { program := "ytkgccpbpmclikaa", sum := "6ab5a385e92216a2ff41d21b4472542e8009e417cc4f7b4b758226ec80163530", func := "loop.example/g03017/laws.FnExactTurnBox", spec := "fnExactTurnBox", apart := false, narrowed := true }
def FnExactTurnBoxUptoSaid : Prop := fnExactTurnBoxUptoRow.holds Try.pinned (OpenSpec.upto fnExactTurnBoxSpec)

end Rows
end Go.Proofs.Ytkgccpbpmclikaa
