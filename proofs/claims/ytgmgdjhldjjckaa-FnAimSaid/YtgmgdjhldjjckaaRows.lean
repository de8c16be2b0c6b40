/-
  No cell of these rows narrows 'for every input' (looked for: loops, veiled, ifaces, maps, wideKeys, modest, calm, conditions, laid).
  DERIVED. THE GIVEN ROWS OF THIS SEAT. 12 by the template 'for every input the law returns true; each argument reads behind the call as it read before'; 0 by the template 'total and deterministic' (their statements: YtgmgdjhldjjckaaTotals.lean).
  GIVEN WITH THE SEED: the statements are not yours to turn. If you find one false, say at which input.
  Laid BY PROGRAM, IN A SANDBOX (cutbox-rows.mjs): the forced cells as the released guide's own fill.sh prints them over the translation aaafad2d2a3c5715… (all of the seat's roots in one cut). By AI agents, Wed Nov 11 2026. No macro, syntax, notation, axiom, sorry.
-/
import Derived.Test.YtgmgdjhldjjckaaChecked
import GoSem.Claim
import GoSem.ClaimJoined
import GoSem.ClaimMapViews
import Derived.JoinedTies
import Derived.KernelRfl
namespace Go.Proofs.Ytgmgdjhldjjckaa
/- THE CELL 'sum', in the pinned program and in every row, IS THE sha256 OF THE DUMP (.gsa) THAT YtgmgdjhldjjckaaProg.lean LOADS. Nothing in Lean hashes anything: it is a label: what it is worth is what the hold of that sum in a sandbox is worth. -/
noncomputable def Try.pinned : Pinned := { name := "ytgmgdjhldjjckaa", sum := "aaafad2d2a3c57150dcb683f706de77529a5853330e8b346a0eabe3075da68f8", checked := Try.checked }
namespace Rows
def none {H : Type} : Left H := { results := [], args := [] }

/-- 'laws.FnFlight': WHATEVER THE INPUT: true; the input reads as it did. -/
def fnFlightSpec : ChangeSpec := { name := "fnFlight", fn := fun _ => fun
  | [d] => { results := [.lit (.bool true)], args := [d] }
  | _ => none }
def fnFlightRow : OpenClaim := { program := "ytgmgdjhldjjckaa", sum := "aaafad2d2a3c57150dcb683f706de77529a5853330e8b346a0eabe3075da68f8", func := "loop.example/g03017/laws.FnFlight", spec := "fnFlight", unfollowed := true, recurses := true, apart := false }
def FnFlightSaid : Prop := fnFlightRow.holds Try.pinned (OpenSpec.ofChange fnFlightSpec)

/-- ITS FALSE NEIGHBOUR: 'it returns false'. Refute it at one input. -/
def fnFlightWrong : ChangeSpec := { name := "fnFlight", fn := fun _ => fun
  | [d] => { results := [.lit (.bool false)], args := [d] }
  | _ => none }
def FnFlightWrongFalsely : Prop := fnFlightRow.holds Try.pinned (OpenSpec.ofChange fnFlightWrong)

/-- 'laws.FnPeak': WHATEVER THE INPUT: true; the input reads as it did. -/
def fnPeakSpec : ChangeSpec := { name := "fnPeak", fn := fun _ => fun
  | [d] => { results := [.lit (.bool true)], args := [d] }
  | _ => none }
def fnPeakRow : OpenClaim := { program := "ytgmgdjhldjjckaa", sum := "aaafad2d2a3c57150dcb683f706de77529a5853330e8b346a0eabe3075da68f8", func := "loop.example/g03017/laws.FnPeak", spec := "fnPeak", unfollowed := true, recurses := true, apart := false }
def FnPeakSaid : Prop := fnPeakRow.holds Try.pinned (OpenSpec.ofChange fnPeakSpec)

/-- ITS FALSE NEIGHBOUR: 'it returns false'. Refute it at one input. -/
def fnPeakWrong : ChangeSpec := { name := "fnPeak", fn := fun _ => fun
  | [d] => { results := [.lit (.bool false)], args := [d] }
  | _ => none }
def FnPeakWrongFalsely : Prop := fnPeakRow.holds Try.pinned (OpenSpec.ofChange fnPeakWrong)

/-- 'laws.FnLands': WHATEVER THE INPUT: true; the input reads as it did. -/
def fnLandsSpec : ChangeSpec := { name := "fnLands", fn := fun _ => fun
  | [d] => { results := [.lit (.bool true)], args := [d] }
  | _ => none }
def fnLandsRow : OpenClaim := { program := "ytgmgdjhldjjckaa", sum := "aaafad2d2a3c57150dcb683f706de77529a5853330e8b346a0eabe3075da68f8", func := "loop.example/g03017/laws.FnLands", spec := "fnLands", unfollowed := true, recurses := true, apart := false }
def FnLandsSaid : Prop := fnLandsRow.holds Try.pinned (OpenSpec.ofChange fnLandsSpec)

/-- ITS FALSE NEIGHBOUR: 'it returns false'. Refute it at one input. -/
def fnLandsWrong : ChangeSpec := { name := "fnLands", fn := fun _ => fun
  | [d] => { results := [.lit (.bool false)], args := [d] }
  | _ => none }
def FnLandsWrongFalsely : Prop := fnLandsRow.holds Try.pinned (OpenSpec.ofChange fnLandsWrong)

/-- 'laws.FnAim': WHATEVER THE INPUT: true; the input reads as it did. -/
def fnAimSpec : ChangeSpec := { name := "fnAim", fn := fun _ => fun
  | [d] => { results := [.lit (.bool true)], args := [d] }
  | _ => none }
def fnAimRow : OpenClaim := { program := "ytgmgdjhldjjckaa", sum := "aaafad2d2a3c57150dcb683f706de77529a5853330e8b346a0eabe3075da68f8", func := "loop.example/g03017/laws.FnAim", spec := "fnAim", unfollowed := true, recurses := true, apart := false }
def FnAimSaid : Prop := fnAimRow.holds Try.pinned (OpenSpec.ofChange fnAimSpec)

/-- ITS FALSE NEIGHBOUR: 'it returns false'. Refute it at one input. -/
def fnAimWrong : ChangeSpec := { name := "fnAim", fn := fun _ => fun
  | [d] => { results := [.lit (.bool false)], args := [d] }
  | _ => none }
def FnAimWrongFalsely : Prop := fnAimRow.holds Try.pinned (OpenSpec.ofChange fnAimWrong)

/-- 'laws.FnMovedJet': WHATEVER THE INPUT: true; the input reads as it did. -/
def fnMovedJetSpec : ChangeSpec := { name := "fnMovedJet", fn := fun _ => fun
  | [d] => { results := [.lit (.bool true)], args := [d] }
  | _ => none }
def fnMovedJetRow : OpenClaim := { program := "ytgmgdjhldjjckaa", sum := "aaafad2d2a3c57150dcb683f706de77529a5853330e8b346a0eabe3075da68f8", func := "loop.example/g03017/laws.FnMovedJet", spec := "fnMovedJet", unfollowed := true, recurses := true, apart := false }
def FnMovedJetSaid : Prop := fnMovedJetRow.holds Try.pinned (OpenSpec.ofChange fnMovedJetSpec)

/-- ITS FALSE NEIGHBOUR: 'it returns false'. Refute it at one input. -/
def fnMovedJetWrong : ChangeSpec := { name := "fnMovedJet", fn := fun _ => fun
  | [d] => { results := [.lit (.bool false)], args := [d] }
  | _ => none }
def FnMovedJetWrongFalsely : Prop := fnMovedJetRow.holds Try.pinned (OpenSpec.ofChange fnMovedJetWrong)

/-- 'laws.FnMeet': WHATEVER THE INPUT: true; the input reads as it did. -/
def fnMeetSpec : ChangeSpec := { name := "fnMeet", fn := fun _ => fun
  | [d] => { results := [.lit (.bool true)], args := [d] }
  | _ => none }
def fnMeetRow : OpenClaim := { program := "ytgmgdjhldjjckaa", sum := "aaafad2d2a3c57150dcb683f706de77529a5853330e8b346a0eabe3075da68f8", func := "loop.example/g03017/laws.FnMeet", spec := "fnMeet", unfollowed := true, recurses := true, apart := false }
def FnMeetSaid : Prop := fnMeetRow.holds Try.pinned (OpenSpec.ofChange fnMeetSpec)

/-- ITS FALSE NEIGHBOUR: 'it returns false'. Refute it at one input. -/
def fnMeetWrong : ChangeSpec := { name := "fnMeet", fn := fun _ => fun
  | [d] => { results := [.lit (.bool false)], args := [d] }
  | _ => none }
def FnMeetWrongFalsely : Prop := fnMeetRow.holds Try.pinned (OpenSpec.ofChange fnMeetWrong)

/-- 'laws.FnBoxes': WHATEVER THE INPUT: true; the input reads as it did. -/
def fnBoxesSpec : ChangeSpec := { name := "fnBoxes", fn := fun _ => fun
  | [d] => { results := [.lit (.bool true)], args := [d] }
  | _ => none }
def fnBoxesRow : OpenClaim := { program := "ytgmgdjhldjjckaa", sum := "aaafad2d2a3c57150dcb683f706de77529a5853330e8b346a0eabe3075da68f8", func := "loop.example/g03017/laws.FnBoxes", spec := "fnBoxes", apart := false }
def FnBoxesSaid : Prop := fnBoxesRow.holds Try.pinned (OpenSpec.ofChange fnBoxesSpec)

/-- ITS FALSE NEIGHBOUR: 'it returns false'. Refute it at one input. -/
def fnBoxesWrong : ChangeSpec := { name := "fnBoxes", fn := fun _ => fun
  | [d] => { results := [.lit (.bool false)], args := [d] }
  | _ => none }
def FnBoxesWrongFalsely : Prop := fnBoxesRow.holds Try.pinned (OpenSpec.ofChange fnBoxesWrong)

/-- 'laws.FnExactBoxOf': WHATEVER THE INPUT: true; the input reads as it did. -/
def fnExactBoxOfSpec : ChangeSpec := { name := "fnExactBoxOf", fn := fun _ => fun
  | [d] => { results := [.lit (.bool true)], args := [d] }
  | _ => none }
def fnExactBoxOfRow : OpenClaim := { program := "ytgmgdjhldjjckaa", sum := "aaafad2d2a3c57150dcb683f706de77529a5853330e8b346a0eabe3075da68f8", func := "loop.example/g03017/laws.FnExactBoxOf", spec := "fnExactBoxOf", apart := false }
def FnExactBoxOfSaid : Prop := fnExactBoxOfRow.holds Try.pinned (OpenSpec.ofChange fnExactBoxOfSpec)

/-- ITS FALSE NEIGHBOUR: 'it returns false'. Refute it at one input. -/
def fnExactBoxOfWrong : ChangeSpec := { name := "fnExactBoxOf", fn := fun _ => fun
  | [d] => { results := [.lit (.bool false)], args := [d] }
  | _ => none }
def FnExactBoxOfWrongFalsely : Prop := fnExactBoxOfRow.holds Try.pinned (OpenSpec.ofChange fnExactBoxOfWrong)

/-- 'laws.FnExactTurnBox': WHATEVER THE INPUT: true; the input reads as it did. -/
def fnExactTurnBoxSpec : ChangeSpec := { name := "fnExactTurnBox", fn := fun _ => fun
  | [d1, d2] => { results := [.lit (.bool true)], args := [d1, d2] }
  | _ => none }
def fnExactTurnBoxRow : OpenClaim := { program := "ytgmgdjhldjjckaa", sum := "aaafad2d2a3c57150dcb683f706de77529a5853330e8b346a0eabe3075da68f8", func := "loop.example/g03017/laws.FnExactTurnBox", spec := "fnExactTurnBox", apart := false }
def FnExactTurnBoxSaid : Prop := fnExactTurnBoxRow.holds Try.pinned (OpenSpec.ofChange fnExactTurnBoxSpec)

/-- ITS FALSE NEIGHBOUR: 'it returns false'. Refute it at one input. -/
def fnExactTurnBoxWrong : ChangeSpec := { name := "fnExactTurnBox", fn := fun _ => fun
  | [d1, d2] => { results := [.lit (.bool false)], args := [d1, d2] }
  | _ => none }
def FnExactTurnBoxWrongFalsely : Prop := fnExactTurnBoxRow.holds Try.pinned (OpenSpec.ofChange fnExactTurnBoxWrong)

/-- 'laws.FnExactAddPlaces': WHATEVER THE INPUT: true; the input reads as it did. -/
def fnExactAddPlacesSpec : ChangeSpec := { name := "fnExactAddPlaces", fn := fun _ => fun
  | [d1, d2] => { results := [.lit (.bool true)], args := [d1, d2] }
  | _ => none }
def fnExactAddPlacesRow : OpenClaim := { program := "ytgmgdjhldjjckaa", sum := "aaafad2d2a3c57150dcb683f706de77529a5853330e8b346a0eabe3075da68f8", func := "loop.example/g03017/laws.FnExactAddPlaces", spec := "fnExactAddPlaces", apart := false }
def FnExactAddPlacesSaid : Prop := fnExactAddPlacesRow.holds Try.pinned (OpenSpec.ofChange fnExactAddPlacesSpec)

/-- ITS FALSE NEIGHBOUR: 'it returns false'. Refute it at one input. -/
def fnExactAddPlacesWrong : ChangeSpec := { name := "fnExactAddPlaces", fn := fun _ => fun
  | [d1, d2] => { results := [.lit (.bool false)], args := [d1, d2] }
  | _ => none }
def FnExactAddPlacesWrongFalsely : Prop := fnExactAddPlacesRow.holds Try.pinned (OpenSpec.ofChange fnExactAddPlacesWrong)

/-- 'laws.FnExactStepFrom': WHATEVER THE INPUT: true; the input reads as it did. -/
def fnExactStepFromSpec : ChangeSpec := { name := "fnExactStepFrom", fn := fun _ => fun
  | [d1, d2, d3] => { results := [.lit (.bool true)], args := [d1, d2, d3] }
  | _ => none }
def fnExactStepFromRow : OpenClaim := { program := "ytgmgdjhldjjckaa", sum := "aaafad2d2a3c57150dcb683f706de77529a5853330e8b346a0eabe3075da68f8", func := "loop.example/g03017/laws.FnExactStepFrom", spec := "fnExactStepFrom", apart := false }
def FnExactStepFromSaid : Prop := fnExactStepFromRow.holds Try.pinned (OpenSpec.ofChange fnExactStepFromSpec)

/-- ITS FALSE NEIGHBOUR: 'it returns false'. Refute it at one input. -/
def fnExactStepFromWrong : ChangeSpec := { name := "fnExactStepFrom", fn := fun _ => fun
  | [d1, d2, d3] => { results := [.lit (.bool false)], args := [d1, d2, d3] }
  | _ => none }
def FnExactStepFromWrongFalsely : Prop := fnExactStepFromRow.holds Try.pinned (OpenSpec.ofChange fnExactStepFromWrong)

/-- 'laws.FnExactTimesMeasure': WHATEVER THE INPUT: true; the input reads as it did. -/
def fnExactTimesMeasureSpec : ChangeSpec := { name := "fnExactTimesMeasure", fn := fun _ => fun
  | [d1, d2] => { results := [.lit (.bool true)], args := [d1, d2] }
  | _ => none }
def fnExactTimesMeasureRow : OpenClaim := { program := "ytgmgdjhldjjckaa", sum := "aaafad2d2a3c57150dcb683f706de77529a5853330e8b346a0eabe3075da68f8", func := "loop.example/g03017/laws.FnExactTimesMeasure", spec := "fnExactTimesMeasure", apart := false }
def FnExactTimesMeasureSaid : Prop := fnExactTimesMeasureRow.holds Try.pinned (OpenSpec.ofChange fnExactTimesMeasureSpec)

/-- ITS FALSE NEIGHBOUR: 'it returns false'. Refute it at one input. -/
def fnExactTimesMeasureWrong : ChangeSpec := { name := "fnExactTimesMeasure", fn := fun _ => fun
  | [d1, d2] => { results := [.lit (.bool false)], args := [d1, d2] }
  | _ => none }
def FnExactTimesMeasureWrongFalsely : Prop := fnExactTimesMeasureRow.holds Try.pinned (OpenSpec.ofChange fnExactTimesMeasureWrong)

/- THE SECOND FORM. 'bulk': how many values and letters a reading holds, each counted each time it is reached (what is shared counts as often as it is met; a slice's spare places count too). A statement '..UptoSaid' is the law's where the arguments, and the package variables that the reading takes, are together of bulk at most 1048576: NARROWER than '..Said'. Prove '..Said' where nothing that the law and all that it calls make is longer than what came in: it says more and counts as full. Else prove '..UptoSaid'. A law counts once. -/
mutual
def uptoBulk {H : Type} : DataW H → Nat
  | .lit (.string bytes) => bytes.length + 1
  | .lit _ => 1
  | .nil => 1
  | .ptr d => uptoBulk d + 1
  | .slice elems spare => uptoBulkAll elems + uptoBulkAll spare + 1
  | .agg parts => uptoBulkAll parts + 1
  | .iface _ d => uptoBulk d + 1
  | .map entries => uptoBulkEntries entries + 1
  | .held _ => 1
def uptoBulkAll {H : Type} : List (DataW H) → Nat
  | [] => 0
  | d :: r => uptoBulk d + uptoBulkAll r
def uptoBulkEntries {H : Type} : List (Lit × DataW H) → Nat
  | [] => 0
  | x :: r => uptoBulkEntry x + uptoBulkEntries r
def uptoBulkEntry {H : Type} : Lit × DataW H → Nat
  | (.string bytes, d) => bytes.length + uptoBulk d + 1
  | (_, d) => uptoBulk d + 1
 end
def uptoSmall : (H : Type) → List (DataW H) → Bool := fun _ ds => decide (uptoBulkAll ds ≤ 1048576)
def OpenSpec.upto (s : _root_.Go.ChangeSpec) : _root_.Go.OpenSpec := { _root_.Go.OpenSpec.ofChange s with cond := some uptoSmall }

/-- 'laws.FnFlight', WHERE WHAT IT READS IS OF BULK AT MOST 1048576: true; the input reads as it did. -/
def fnFlightUptoRow : OpenClaim := { program := "ytgmgdjhldjjckaa", sum := "aaafad2d2a3c57150dcb683f706de77529a5853330e8b346a0eabe3075da68f8", func := "loop.example/g03017/laws.FnFlight", spec := "fnFlight", unfollowed := true, recurses := true, apart := false, narrowed := true }
def FnFlightUptoSaid : Prop := fnFlightUptoRow.holds Try.pinned (OpenSpec.upto fnFlightSpec)

/-- 'laws.FnPeak', WHERE WHAT IT READS IS OF BULK AT MOST 1048576: true; the input reads as it did. -/
def fnPeakUptoRow : OpenClaim := { program := "ytgmgdjhldjjckaa", sum := "aaafad2d2a3c57150dcb683f706de77529a5853330e8b346a0eabe3075da68f8", func := "loop.example/g03017/laws.FnPeak", spec := "fnPeak", unfollowed := true, recurses := true, apart := false, narrowed := true }
def FnPeakUptoSaid : Prop := fnPeakUptoRow.holds Try.pinned (OpenSpec.upto fnPeakSpec)

/-- 'laws.FnLands', WHERE WHAT IT READS IS OF BULK AT MOST 1048576: true; the input reads as it did. -/
def fnLandsUptoRow : OpenClaim := { program := "ytgmgdjhldjjckaa", sum := "aaafad2d2a3c57150dcb683f706de77529a5853330e8b346a0eabe3075da68f8", func := "loop.example/g03017/laws.FnLands", spec := "fnLands", unfollowed := true, recurses := true, apart := false, narrowed := true }
def FnLandsUptoSaid : Prop := fnLandsUptoRow.holds Try.pinned (OpenSpec.upto fnLandsSpec)

/-- 'laws.FnAim', WHERE WHAT IT READS IS OF BULK AT MOST 1048576: true; the input reads as it did. -/
def fnAimUptoRow : OpenClaim := { program := "ytgmgdjhldjjckaa", sum := "aaafad2d2a3c57150dcb683f706de77529a5853330e8b346a0eabe3075da68f8", func := "loop.example/g03017/laws.FnAim", spec := "fnAim", unfollowed := true, recurses := true, apart := false, narrowed := true }
def FnAimUptoSaid : Prop := fnAimUptoRow.holds Try.pinned (OpenSpec.upto fnAimSpec)

/-- 'laws.FnMovedJet', WHERE WHAT IT READS IS OF BULK AT MOST 1048576: true; the input reads as it did. -/
def fnMovedJetUptoRow : OpenClaim := { program := "ytgmgdjhldjjckaa", sum := "aaafad2d2a3c57150dcb683f706de77529a5853330e8b346a0eabe3075da68f8", func := "loop.example/g03017/laws.FnMovedJet", spec := "fnMovedJet", unfollowed := true, recurses := true, apart := false, narrowed := true }
def FnMovedJetUptoSaid : Prop := fnMovedJetUptoRow.holds Try.pinned (OpenSpec.upto fnMovedJetSpec)

/-- 'laws.FnMeet', WHERE WHAT IT READS IS OF BULK AT MOST 1048576: true; the input reads as it did. -/
def fnMeetUptoRow : OpenClaim := { program := "ytgmgdjhldjjckaa", sum := "aaafad2d2a3c57150dcb683f706de77529a5853330e8b346a0eabe3075da68f8", func := "loop.example/g03017/laws.FnMeet", spec := "fnMeet", unfollowed := true, recurses := true, apart := false, narrowed := true }
def FnMeetUptoSaid : Prop := fnMeetUptoRow.holds Try.pinned (OpenSpec.upto fnMeetSpec)

/-- 'laws.FnBoxes', WHERE WHAT IT READS IS OF BULK AT MOST 1048576: true; the input reads as it did. -/
def fnBoxesUptoRow : OpenClaim := { program := "ytgmgdjhldjjckaa", sum := "aaafad2d2a3c57150dcb683f706de77529a5853330e8b346a0eabe3075da68f8", func := "loop.example/g03017/laws.FnBoxes", spec := "fnBoxes", apart := false, narrowed := true }
def FnBoxesUptoSaid : Prop := fnBoxesUptoRow.holds Try.pinned (OpenSpec.upto fnBoxesSpec)

/-- 'laws.FnExactBoxOf', WHERE WHAT IT READS IS OF BULK AT MOST 1048576: true; the input reads as it did. -/
def fnExactBoxOfUptoRow : OpenClaim := { program := "ytgmgdjhldjjckaa", sum := "aaafad2d2a3c57150dcb683f706de77529a5853330e8b346a0eabe3075da68f8", func := "loop.example/g03017/laws.FnExactBoxOf", spec := "fnExactBoxOf", apart := false, narrowed := true }
def FnExactBoxOfUptoSaid : Prop := fnExactBoxOfUptoRow.holds Try.pinned (OpenSpec.upto fnExactBoxOfSpec)

/-- 'laws.FnExactTurnBox', WHERE WHAT IT READS IS OF BULK AT MOST 1048576: true; the input reads as it did. -/
def fnExactTurnBoxUptoRow : OpenClaim := { program := "ytgmgdjhldjjckaa", sum := "aaafad2d2a3c57150dcb683f706de77529a5853330e8b346a0eabe3075da68f8", func := "loop.example/g03017/laws.FnExactTurnBox", spec := "fnExactTurnBox", apart := false, narrowed := true }
def FnExactTurnBoxUptoSaid : Prop := fnExactTurnBoxUptoRow.holds Try.pinned (OpenSpec.upto fnExactTurnBoxSpec)

/-- 'laws.FnExactAddPlaces', WHERE WHAT IT READS IS OF BULK AT MOST 1048576: true; the input reads as it did. -/
def fnExactAddPlacesUptoRow : OpenClaim := { program := "ytgmgdjhldjjckaa", sum := "aaafad2d2a3c57150dcb683f706de77529a5853330e8b346a0eabe3075da68f8", func := "loop.example/g03017/laws.FnExactAddPlaces", spec := "fnExactAddPlaces", apart := false, narrowed := true }
def FnExactAddPlacesUptoSaid : Prop := fnExactAddPlacesUptoRow.holds Try.pinned (OpenSpec.upto fnExactAddPlacesSpec)

/-- 'laws.FnExactStepFrom', WHERE WHAT IT READS IS OF BULK AT MOST 1048576: true; the input reads as it did. -/
def fnExactStepFromUptoRow : OpenClaim := { program := "ytgmgdjhldjjckaa", sum := "aaafad2d2a3c57150dcb683f706de77529a5853330e8b346a0eabe3075da68f8", func := "loop.example/g03017/laws.FnExactStepFrom", spec := "fnExactStepFrom", apart := false, narrowed := true }
def FnExactStepFromUptoSaid : Prop := fnExactStepFromUptoRow.holds Try.pinned (OpenSpec.upto fnExactStepFromSpec)

/-- 'laws.FnExactTimesMeasure', WHERE WHAT IT READS IS OF BULK AT MOST 1048576: true; the input reads as it did. -/
def fnExactTimesMeasureUptoRow : OpenClaim := { program := "ytgmgdjhldjjckaa", sum := "aaafad2d2a3c57150dcb683f706de77529a5853330e8b346a0eabe3075da68f8", func := "loop.example/g03017/laws.FnExactTimesMeasure", spec := "fnExactTimesMeasure", apart := false, narrowed := true }
def FnExactTimesMeasureUptoSaid : Prop := fnExactTimesMeasureUptoRow.holds Try.pinned (OpenSpec.upto fnExactTimesMeasureSpec)

end Rows
end Go.Proofs.Ytgmgdjhldjjckaa
