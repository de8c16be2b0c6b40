/-
  No cell of these rows narrows 'for every input' (looked for: loops, veiled, ifaces, maps, wideKeys, modest, calm, conditions, laid).
  DERIVED. THE GIVEN ROWS OF THIS SEAT. 11 by the template 'for every input the law returns true; each argument reads behind the call as it read before'; 0 by the template 'total and deterministic' (their statements: YtppaknjiadnogaaTotals.lean).
  GIVEN WITH THE SEED: the statements are not yours to turn. If you find one false, say at which input.
  Laid BY PROGRAM, IN A SANDBOX (cutbox-rows.mjs): the forced cells as the released guide's own fill.sh prints them over the translation df13b2d68dc3f045… (all of the seat's roots in one cut). By AI agents, Wed Nov 11 2026. No macro, syntax, notation, axiom, sorry.
-/
import Derived.Test.YtppaknjiadnogaaChecked
import GoSem.Claim
import GoSem.ClaimJoined
import GoSem.ClaimMapViews
import Derived.JoinedTies
import Derived.KernelRfl
namespace Go.Proofs.Ytppaknjiadnogaa
/- THE CELL 'sum', in the pinned program and in every row, IS THE sha256 OF THE DUMP (.gsa) THAT YtppaknjiadnogaaProg.lean LOADS. Nothing in Lean hashes anything: it is a label: what it is worth is what the hold of that sum in a sandbox is worth. -/
noncomputable def Try.pinned : Pinned := { name := "ytppaknjiadnogaa", sum := "df13b2d68dc3f045584cae0550a1a86257b5ab19b513ec2c3e9e937e04d7f05b", checked := Try.checked }
namespace Rows
def none {H : Type} : Left H := { results := [], args := [] }

/-- 'laws.FnMovedJet': WHATEVER THE INPUT: true; the input reads as it did. -/
def fnMovedJetSpec : ChangeSpec := { name := "fnMovedJet", fn := fun _ => fun
  | [d] => { results := [.lit (.bool true)], args := [d] }
  | _ => none }
def fnMovedJetRow : OpenClaim := { program := "ytppaknjiadnogaa", sum := "df13b2d68dc3f045584cae0550a1a86257b5ab19b513ec2c3e9e937e04d7f05b", func := "loop.example/g03017/laws.FnMovedJet", spec := "fnMovedJet", unfollowed := true, recurses := true, apart := false }
def FnMovedJetSaid : Prop := fnMovedJetRow.holds Try.pinned (OpenSpec.ofChange fnMovedJetSpec)

/-- ITS FALSE NEIGHBOUR: 'it returns false'. Refute it at one input. -/
def fnMovedJetWrong : ChangeSpec := { name := "fnMovedJet", fn := fun _ => fun
  | [d] => { results := [.lit (.bool false)], args := [d] }
  | _ => none }
def FnMovedJetWrongFalsely : Prop := fnMovedJetRow.holds Try.pinned (OpenSpec.ofChange fnMovedJetWrong)

/-- 'laws.FnMeet': WHATEVER THE INPUT: true; the input reads as it did. -/
def fnMeetSpec : ChangeSpec := { name := "fnMeet", fn := fun _ => fun
  | [d] => { results := [.lit (.bool true)], args := [d] }
  | _ => none }
def fnMeetRow : OpenClaim := { program := "ytppaknjiadnogaa", sum := "df13b2d68dc3f045584cae0550a1a86257b5ab19b513ec2c3e9e937e04d7f05b", func := "loop.example/g03017/laws.FnMeet", spec := "fnMeet", unfollowed := true, recurses := true, apart := false }
def FnMeetSaid : Prop := fnMeetRow.holds Try.pinned (OpenSpec.ofChange fnMeetSpec)

/-- ITS FALSE NEIGHBOUR: 'it returns false'. Refute it at one input. -/
def fnMeetWrong : ChangeSpec := { name := "fnMeet", fn := fun _ => fun
  | [d] => { results := [.lit (.bool false)], args := [d] }
  | _ => none }
def FnMeetWrongFalsely : Prop := fnMeetRow.holds Try.pinned (OpenSpec.ofChange fnMeetWrong)

/-- 'laws.FnBoxes': WHATEVER THE INPUT: true; the input reads as it did. -/
def fnBoxesSpec : ChangeSpec := { name := "fnBoxes", fn := fun _ => fun
  | [d] => { results := [.lit (.bool true)], args := [d] }
  | _ => none }
def fnBoxesRow : OpenClaim := { program := "ytppaknjiadnogaa", sum := "df13b2d68dc3f045584cae0550a1a86257b5ab19b513ec2c3e9e937e04d7f05b", func := "loop.example/g03017/laws.FnBoxes", spec := "fnBoxes", apart := false }
def FnBoxesSaid : Prop := fnBoxesRow.holds Try.pinned (OpenSpec.ofChange fnBoxesSpec)

/-- ITS FALSE NEIGHBOUR: 'it returns false'. Refute it at one input. -/
def fnBoxesWrong : ChangeSpec := { name := "fnBoxes", fn := fun _ => fun
  | [d] => { results := [.lit (.bool false)], args := [d] }
  | _ => none }
def FnBoxesWrongFalsely : Prop := fnBoxesRow.holds Try.pinned (OpenSpec.ofChange fnBoxesWrong)

/-- 'laws.FnExactMeetingsOf': WHATEVER THE INPUT: true; the input reads as it did. -/
def fnExactMeetingsOfSpec : ChangeSpec := { name := "fnExactMeetingsOf", fn := fun _ => fun
  | [d1, d2] => { results := [.lit (.bool true)], args := [d1, d2] }
  | _ => none }
def fnExactMeetingsOfRow : OpenClaim := { program := "ytppaknjiadnogaa", sum := "df13b2d68dc3f045584cae0550a1a86257b5ab19b513ec2c3e9e937e04d7f05b", func := "loop.example/g03017/laws.FnExactMeetingsOf", spec := "fnExactMeetingsOf", unfollowed := true, recurses := true, apart := false }
def FnExactMeetingsOfSaid : Prop := fnExactMeetingsOfRow.holds Try.pinned (OpenSpec.ofChange fnExactMeetingsOfSpec)

/-- ITS FALSE NEIGHBOUR: 'it returns false'. Refute it at one input. -/
def fnExactMeetingsOfWrong : ChangeSpec := { name := "fnExactMeetingsOf", fn := fun _ => fun
  | [d1, d2] => { results := [.lit (.bool false)], args := [d1, d2] }
  | _ => none }
def FnExactMeetingsOfWrongFalsely : Prop := fnExactMeetingsOfRow.holds Try.pinned (OpenSpec.ofChange fnExactMeetingsOfWrong)

/-- 'laws.FnLands': WHATEVER THE INPUT: true; the input reads as it did. -/
def fnLandsSpec : ChangeSpec := { name := "fnLands", fn := fun _ => fun
  | [d] => { results := [.lit (.bool true)], args := [d] }
  | _ => none }
def fnLandsRow : OpenClaim := { program := "ytppaknjiadnogaa", sum := "df13b2d68dc3f045584cae0550a1a86257b5ab19b513ec2c3e9e937e04d7f05b", func := "loop.example/g03017/laws.FnLands", spec := "fnLands", unfollowed := true, recurses := true, apart := false }
def FnLandsSaid : Prop := fnLandsRow.holds Try.pinned (OpenSpec.ofChange fnLandsSpec)

/-- ITS FALSE NEIGHBOUR: 'it returns false'. Refute it at one input. -/
def fnLandsWrong : ChangeSpec := { name := "fnLands", fn := fun _ => fun
  | [d] => { results := [.lit (.bool false)], args := [d] }
  | _ => none }
def FnLandsWrongFalsely : Prop := fnLandsRow.holds Try.pinned (OpenSpec.ofChange fnLandsWrong)

/-- 'laws.FnExactBoxOf': WHATEVER THE INPUT: true; the input reads as it did. -/
def fnExactBoxOfSpec : ChangeSpec := { name := "fnExactBoxOf", fn := fun _ => fun
  | [d] => { results := [.lit (.bool true)], args := [d] }
  | _ => none }
def fnExactBoxOfRow : OpenClaim := { program := "ytppaknjiadnogaa", sum := "df13b2d68dc3f045584cae0550a1a86257b5ab19b513ec2c3e9e937e04d7f05b", func := "loop.example/g03017/laws.FnExactBoxOf", spec := "fnExactBoxOf", apart := false }
def FnExactBoxOfSaid : Prop := fnExactBoxOfRow.holds Try.pinned (OpenSpec.ofChange fnExactBoxOfSpec)

/-- ITS FALSE NEIGHBOUR: 'it returns false'. Refute it at one input. -/
def fnExactBoxOfWrong : ChangeSpec := { name := "fnExactBoxOf", fn := fun _ => fun
  | [d] => { results := [.lit (.bool false)], args := [d] }
  | _ => none }
def FnExactBoxOfWrongFalsely : Prop := fnExactBoxOfRow.holds Try.pinned (OpenSpec.ofChange fnExactBoxOfWrong)

/-- 'laws.FnExactTurnBox': WHATEVER THE INPUT: true; the input reads as it did. -/
def fnExactTurnBoxSpec : ChangeSpec := { name := "fnExactTurnBox", fn := fun _ => fun
  | [d1, d2] => { results := [.lit (.bool true)], args := [d1, d2] }
  | _ => none }
def fnExactTurnBoxRow : OpenClaim := { program := "ytppaknjiadnogaa", sum := "df13b2d68dc3f045584cae0550a1a86257b5ab19b513ec2c3e9e937e04d7f05b", func := "loop.example/g03017/laws.FnExactTurnBox", spec := "fnExactTurnBox", apart := false }
def FnExactTurnBoxSaid : Prop := fnExactTurnBoxRow.holds Try.pinned (OpenSpec.ofChange fnExactTurnBoxSpec)

/-- ITS FALSE NEIGHBOUR: 'it returns false'. Refute it at one input. -/
def fnExactTurnBoxWrong : ChangeSpec := { name := "fnExactTurnBox", fn := fun _ => fun
  | [d1, d2] => { results := [.lit (.bool false)], args := [d1, d2] }
  | _ => none }
def FnExactTurnBoxWrongFalsely : Prop := fnExactTurnBoxRow.holds Try.pinned (OpenSpec.ofChange fnExactTurnBoxWrong)

/-- 'laws.FnExactAddPlaces': WHATEVER THE INPUT: true; the input reads as it did. -/
def fnExactAddPlacesSpec : ChangeSpec := { name := "fnExactAddPlaces", fn := fun _ => fun
  | [d1, d2] => { results := [.lit (.bool true)], args := [d1, d2] }
  | _ => none }
def fnExactAddPlacesRow : OpenClaim := { program := "ytppaknjiadnogaa", sum := "df13b2d68dc3f045584cae0550a1a86257b5ab19b513ec2c3e9e937e04d7f05b", func := "loop.example/g03017/laws.FnExactAddPlaces", spec := "fnExactAddPlaces", apart := false }
def FnExactAddPlacesSaid : Prop := fnExactAddPlacesRow.holds Try.pinned (OpenSpec.ofChange fnExactAddPlacesSpec)

/-- ITS FALSE NEIGHBOUR: 'it returns false'. Refute it at one input. -/
def fnExactAddPlacesWrong : ChangeSpec := { name := "fnExactAddPlaces", fn := fun _ => fun
  | [d1, d2] => { results := [.lit (.bool false)], args := [d1, d2] }
  | _ => none }
def FnExactAddPlacesWrongFalsely : Prop := fnExactAddPlacesRow.holds Try.pinned (OpenSpec.ofChange fnExactAddPlacesWrong)

/-- 'laws.FnExactStepFrom': WHATEVER THE INPUT: true; the input reads as it did. -/
def fnExactStepFromSpec : ChangeSpec := { name := "fnExactStepFrom", fn := fun _ => fun
  | [d1, d2, d3] => { results := [.lit (.bool true)], args := [d1, d2, d3] }
  | _ => none }
def fnExactStepFromRow : OpenClaim := { program := "ytppaknjiadnogaa", sum := "df13b2d68dc3f045584cae0550a1a86257b5ab19b513ec2c3e9e937e04d7f05b", func := "loop.example/g03017/laws.FnExactStepFrom", spec := "fnExactStepFrom", apart := false }
def FnExactStepFromSaid : Prop := fnExactStepFromRow.holds Try.pinned (OpenSpec.ofChange fnExactStepFromSpec)

/-- ITS FALSE NEIGHBOUR: 'it returns false'. Refute it at one input. -/
def fnExactStepFromWrong : ChangeSpec := { name := "fnExactStepFrom", fn := fun _ => fun
  | [d1, d2, d3] => { results := [.lit (.bool false)], args := [d1, d2, d3] }
  | _ => none }
def FnExactStepFromWrongFalsely : Prop := fnExactStepFromRow.holds Try.pinned (OpenSpec.ofChange fnExactStepFromWrong)

/-- 'laws.FnExactTimesMeasure': WHATEVER THE INPUT: true; the input reads as it did. -/
def fnExactTimesMeasureSpec : ChangeSpec := { name := "fnExactTimesMeasure", fn := fun _ => fun
  | [d1, d2] => { results := [.lit (.bool true)], args := [d1, d2] }
  | _ => none }
def fnExactTimesMeasureRow : OpenClaim := { program := "ytppaknjiadnogaa", sum := "df13b2d68dc3f045584cae0550a1a86257b5ab19b513ec2c3e9e937e04d7f05b", func := "loop.example/g03017/laws.FnExactTimesMeasure", spec := "fnExactTimesMeasure", apart := false }
def FnExactTimesMeasureSaid : Prop := fnExactTimesMeasureRow.holds Try.pinned (OpenSpec.ofChange fnExactTimesMeasureSpec)

/-- ITS FALSE NEIGHBOUR: 'it returns false'. Refute it at one input. -/
def fnExactTimesMeasureWrong : ChangeSpec := { name := "fnExactTimesMeasure", fn := fun _ => fun
  | [d1, d2] => { results := [.lit (.bool false)], args := [d1, d2] }
  | _ => none }
def FnExactTimesMeasureWrongFalsely : Prop := fnExactTimesMeasureRow.holds Try.pinned (OpenSpec.ofChange fnExactTimesMeasureWrong)

/-- 'laws.FnExactShiftJet': WHATEVER THE INPUT: true; the input reads as it did. -/
def fnExactShiftJetSpec : ChangeSpec := { name := "fnExactShiftJet", fn := fun _ => fun
  | [d1, d2] => { results := [.lit (.bool true)], args := [d1, d2] }
  | _ => none }
def fnExactShiftJetRow : OpenClaim := { program := "ytppaknjiadnogaa", sum := "df13b2d68dc3f045584cae0550a1a86257b5ab19b513ec2c3e9e937e04d7f05b", func := "loop.example/g03017/laws.FnExactShiftJet", spec := "fnExactShiftJet", apart := false }
def FnExactShiftJetSaid : Prop := fnExactShiftJetRow.holds Try.pinned (OpenSpec.ofChange fnExactShiftJetSpec)

/-- ITS FALSE NEIGHBOUR: 'it returns false'. Refute it at one input. -/
def fnExactShiftJetWrong : ChangeSpec := { name := "fnExactShiftJet", fn := fun _ => fun
  | [d1, d2] => { results := [.lit (.bool false)], args := [d1, d2] }
  | _ => none }
def FnExactShiftJetWrongFalsely : Prop := fnExactShiftJetRow.holds Try.pinned (OpenSpec.ofChange fnExactShiftJetWrong)

/- THE SECOND FORM. 'bulk': how many values and letters a reading holds, each counted each time it is reached (what is shared counts as often as it is met; a slice's spare places count too). A statement '..UptoSaid' is the law's where the arguments, and the package variables that the reading takes, are together of bulk at most 1048576: NARROWER than '..Said'. Prove '..Said' where nothing that the law and all that it calls make is longer than what came in: it says more and counts as full. Else prove '..UptoSaid'. A law counts once. -/
mutual
def uptoBulk {H : Type} : DataW H → Nat
  | .lit (.string bytes) => bytes.length + 1
  | .lit _ => 1
  | .nil => 1
  | .ptr d => uptoBulk d + 1
  | .slice elems spare => uptoBulkAll elems + uptoBulkAll spare + 1
  | .agg parts => uptoBulkAll parts + 1
  | .iface _ d => uptoBulk d + 1
  | .map entries => uptoBulkEntries entries + 1
  | .held _ => 1
def uptoBulkAll {H : Type} : List (DataW H) → Nat
  | [] => 0
  | d :: r => uptoBulk d + uptoBulkAll r
def uptoBulkEntries {H : Type} : List (Lit × DataW H) → Nat
  | [] => 0
  | x :: r => uptoBulkEntry x + uptoBulkEntries r
def uptoBulkEntry {H : Type} : Lit × DataW H → Nat
  | (.string bytes, d) => bytes.length + uptoBulk d + 1
  | (_, d) => uptoBulk d + 1
 end
def uptoSmall : (H : Type) → List (DataW H) → Bool := fun _ ds => decide (uptoBulkAll ds ≤ 1048576)
def OpenSpec.upto (s : _root_.Go.ChangeSpec) : _root_.Go.OpenSpec := { _root_.Go.OpenSpec.ofChange s with cond := some uptoSmall }

/-- 'laws.FnMovedJet', WHERE WHAT IT READS IS OF BULK AT MOST 1048576: true; the input reads as it did. -/
def fnMovedJetUptoRow : OpenClaim := { program := "ytppaknjiadnogaa", sum := "df13b2d68dc3f045584cae0550a1a86257b5ab19b513ec2c3e9e937e04d7f05b", func := "loop.example/g03017/laws.FnMovedJet", spec := "fnMovedJet", unfollowed := true, recurses := true, apart := false, narrowed := true }
def FnMovedJetUptoSaid : Prop := fnMovedJetUptoRow.holds Try.pinned (OpenSpec.upto fnMovedJetSpec)

/-- 'laws.FnMeet', WHERE WHAT IT READS IS OF BULK AT MOST 1048576: true; the input reads as it did. -/
def fnMeetUptoRow : OpenClaim := { program := "ytppaknjiadnogaa", sum := "df13b2d68dc3f045584cae0550a1a86257b5ab19b513ec2c3e9e937e04d7f05b", func := "loop.example/g03017/laws.FnMeet", spec := "fnMeet", unfollowed := true, recurses := true, apart := false, narrowed := true }
def FnMeetUptoSaid : Prop := fnMeetUptoRow.holds Try.pinned (OpenSpec.upto fnMeetSpec)

/-- 'laws.FnBoxes', WHERE WHAT IT READS IS OF BULK AT MOST 1048576: true; the input reads as it did. -/
def fnBoxesUptoRow : OpenClaim := { program := "ytppaknjiadnogaa", sum := "df13b2d68dc3f045584cae0550a1a86257b5ab19b513ec2c3e9e937e04d7f05b", func := "loop.example/g03017/laws.FnBoxes", spec := "fnBoxes", apart := false, narrowed := true }
def FnBoxesUptoSaid : Prop := fnBoxesUptoRow.holds Try.pinned (OpenSpec.upto fnBoxesSpec)

/-- 'laws.FnExactMeetingsOf', WHERE WHAT IT READS IS OF BULK AT MOST 1048576: true; the input reads as it did. -/
def fnExactMeetingsOfUptoRow : OpenClaim := { program := "ytppaknjiadnogaa", sum := "df13b2d68dc3f045584cae0550a1a86257b5ab19b513ec2c3e9e937e04d7f05b", func := "loop.example/g03017/laws.FnExactMeetingsOf", spec := "fnExactMeetingsOf", unfollowed := true, recurses := true, apart := false, narrowed := true }
def FnExactMeetingsOfUptoSaid : Prop := fnExactMeetingsOfUptoRow.holds Try.pinned (OpenSpec.upto fnExactMeetingsOfSpec)

/-- 'laws.FnLands', WHERE WHAT IT READS IS OF BULK AT MOST 1048576: true; the input reads as it did. -/
def fnLandsUptoRow : OpenClaim := { program := "ytppaknjiadnogaa", sum := "df13b2d68dc3f045584cae0550a1a86257b5ab19b513ec2c3e9e937e04d7f05b", func := "loop.example/g03017/laws.FnLands", spec := "fnLands", unfollowed := true, recurses := true, apart := false, narrowed := true }
def FnLandsUptoSaid : Prop := fnLandsUptoRow.holds Try.pinned (OpenSpec.upto fnLandsSpec)

/-- 'laws.FnExactBoxOf', WHERE WHAT IT READS IS OF BULK AT MOST 1048576: true; the input reads as it did. -/
def fnExactBoxOfUptoRow : OpenClaim := { program := "ytppaknjiadnogaa", sum := "df13b2d68dc3f045584cae0550a1a86257b5ab19b513ec2c3e9e937e04d7f05b", func := "loop.example/g03017/laws.FnExactBoxOf", spec := "fnExactBoxOf", apart := false, narrowed := true }
def FnExactBoxOfUptoSaid : Prop := fnExactBoxOfUptoRow.holds Try.pinned (OpenSpec.upto fnExactBoxOfSpec)

/-- 'laws.FnExactTurnBox', WHERE WHAT IT READS IS OF BULK AT MOST 1048576: true; the input reads as it did. -/
def fnExactTurnBoxUptoRow : OpenClaim := { program := "ytppaknjiadnogaa", sum := "df13b2d68dc3f045584cae0550a1a86257b5ab19b513ec2c3e9e937e04d7f05b", func := "loop.example/g03017/laws.FnExactTurnBox", spec := "fnExactTurnBox", apart := false, narrowed := true }
def FnExactTurnBoxUptoSaid : Prop := fnExactTurnBoxUptoRow.holds Try.pinned (OpenSpec.upto fnExactTurnBoxSpec)

/-- 'laws.FnExactAddPlaces', WHERE WHAT IT READS IS OF BULK AT MOST 1048576: true; the input reads as it did. -/
def fnExactAddPlacesUptoRow : OpenClaim := { program := "ytppaknjiadnogaa", sum := "df13b2d68dc3f045584cae0550a1a86257b5ab19b513ec2c3e9e937e04d7f05b", func := "loop.example/g03017/laws.FnExactAddPlaces", spec := "fnExactAddPlaces", apart := false, narrowed := true }
def FnExactAddPlacesUptoSaid : Prop := fnExactAddPlacesUptoRow.holds Try.pinned (OpenSpec.upto fnExactAddPlacesSpec)

/-- 'laws.FnExactStepFrom', WHERE WHAT IT READS IS OF BULK AT MOST 1048576: true; the input reads as it did. -/
def fnExactStepFromUptoRow : OpenClaim := { program := "ytppaknjiadnogaa", sum := "df13b2d68dc3f045584cae0550a1a86257b5ab19b513ec2c3e9e937e04d7f05b", func := "loop.example/g03017/laws.FnExactStepFrom", spec := "fnExactStepFrom", apart := false, narrowed := true }
def FnExactStepFromUptoSaid : Prop := fnExactStepFromUptoRow.holds Try.pinned (OpenSpec.upto fnExactStepFromSpec)

/-- 'laws.FnExactTimesMeasure', WHERE WHAT IT READS IS OF BULK AT MOST 1048576: true; the input reads as it did. -/
def fnExactTimesMeasureUptoRow : OpenClaim := { program := "ytppaknjiadnogaa", sum := "df13b2d68dc3f045584cae0550a1a86257b5ab19b513ec2c3e9e937e04d7f05b", func := "loop.example/g03017/laws.FnExactTimesMeasure", spec := "fnExactTimesMeasure", apart := false, narrowed := true }
def FnExactTimesMeasureUptoSaid : Prop := fnExactTimesMeasureUptoRow.holds Try.pinned (OpenSpec.upto fnExactTimesMeasureSpec)

/-- 'laws.FnExactShiftJet', WHERE WHAT IT READS IS OF BULK AT MOST 1048576: true; the input reads as it did. -/
def fnExactShiftJetUptoRow : OpenClaim := { program := "ytppaknjiadnogaa", sum := "df13b2d68dc3f045584cae0550a1a86257b5ab19b513ec2c3e9e937e04d7f05b", func := "loop.example/g03017/laws.FnExactShiftJet", spec := "fnExactShiftJet", apart := false, narrowed := true }
def FnExactShiftJetUptoSaid : Prop := fnExactShiftJetUptoRow.holds Try.pinned (OpenSpec.upto fnExactShiftJetSpec)

end Rows
end Go.Proofs.Ytppaknjiadnogaa
