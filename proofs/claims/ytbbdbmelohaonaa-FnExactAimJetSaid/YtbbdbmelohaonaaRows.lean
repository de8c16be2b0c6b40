/-
  No cell of these rows narrows 'for every input' (looked for: loops, veiled, ifaces, maps, wideKeys, modest, calm, conditions, laid).
  DERIVED. THE GIVEN ROWS OF THIS SEAT. 12 by the template 'for every input the law returns true; each argument reads behind the call as it read before'; 0 by the template 'total and deterministic' (their statements: YtbbdbmelohaonaaTotals.lean).
  GIVEN WITH THE SEED: the statements are not yours to turn. If you find one false, say at which input.
  Laid BY PROGRAM, IN A SANDBOX (cutbox-rows.mjs): the forced cells as the released guide's own fill.sh prints them over the translation 332ecaac82f7341a… (all of the seat's roots in one cut). By AI agents, Wed Nov 11 2026. No macro, syntax, notation, axiom, sorry.
-/
import Derived.Test.YtbbdbmelohaonaaChecked
import GoSem.Claim
import GoSem.ClaimJoined
import GoSem.ClaimMapViews
import Derived.JoinedTies
import Derived.KernelRfl
namespace Go.Proofs.Ytbbdbmelohaonaa
/- THE CELL 'sum', in the pinned program and in every row, IS THE sha256 OF THE DUMP (.gsa) THAT YtbbdbmelohaonaaProg.lean LOADS. Nothing in Lean hashes anything: it is a label: what it is worth is what the hold of that sum in a sandbox is worth. -/
noncomputable def Try.pinned : Pinned := { name := "ytbbdbmelohaonaa", sum := "332ecaac82f7341ac730cf01f0b4b0f4ba0c31d9b4980468df2660eaa4662dd7", checked := Try.checked }
namespace Rows
def none {H : Type} : Left H := { results := [], args := [] }

/-- 'laws.FnExactIsJet': WHATEVER THE INPUT: true; the input reads as it did. -/
def fnExactIsJetSpec : ChangeSpec := { name := "fnExactIsJet", fn := fun _ => fun
  | [d] => { results := [.lit (.bool true)], args := [d] }
  | _ => none }
def fnExactIsJetRow : OpenClaim := { program := "ytbbdbmelohaonaa", sum := "332ecaac82f7341ac730cf01f0b4b0f4ba0c31d9b4980468df2660eaa4662dd7", func := "loop.example/g03017/laws.FnExactIsJet", spec := "fnExactIsJet", apart := false }
def FnExactIsJetSaid : Prop := fnExactIsJetRow.holds Try.pinned (OpenSpec.ofChange fnExactIsJetSpec)

/-- ITS FALSE NEIGHBOUR: 'it returns false'. Refute it at one input. -/
def fnExactIsJetWrong : ChangeSpec := { name := "fnExactIsJet", fn := fun _ => fun
  | [d] => { results := [.lit (.bool false)], args := [d] }
  | _ => none }
def FnExactIsJetWrongFalsely : Prop := fnExactIsJetRow.holds Try.pinned (OpenSpec.ofChange fnExactIsJetWrong)

/-- 'laws.FnExactFlightOf': WHATEVER THE INPUT: true; the input reads as it did. -/
def fnExactFlightOfSpec : ChangeSpec := { name := "fnExactFlightOf", fn := fun _ => fun
  | [d] => { results := [.lit (.bool true)], args := [d] }
  | _ => none }
def fnExactFlightOfRow : OpenClaim := { program := "ytbbdbmelohaonaa", sum := "332ecaac82f7341ac730cf01f0b4b0f4ba0c31d9b4980468df2660eaa4662dd7", func := "loop.example/g03017/laws.FnExactFlightOf", spec := "fnExactFlightOf", unfollowed := true, recurses := true, apart := false }
def FnExactFlightOfSaid : Prop := fnExactFlightOfRow.holds Try.pinned (OpenSpec.ofChange fnExactFlightOfSpec)

/-- ITS FALSE NEIGHBOUR: 'it returns false'. Refute it at one input. -/
def fnExactFlightOfWrong : ChangeSpec := { name := "fnExactFlightOf", fn := fun _ => fun
  | [d] => { results := [.lit (.bool false)], args := [d] }
  | _ => none }
def FnExactFlightOfWrongFalsely : Prop := fnExactFlightOfRow.holds Try.pinned (OpenSpec.ofChange fnExactFlightOfWrong)

/-- 'laws.FnExactHeightAt': WHATEVER THE INPUT: true; the input reads as it did. -/
def fnExactHeightAtSpec : ChangeSpec := { name := "fnExactHeightAt", fn := fun _ => fun
  | [d1, d2] => { results := [.lit (.bool true)], args := [d1, d2] }
  | _ => none }
def fnExactHeightAtRow : OpenClaim := { program := "ytbbdbmelohaonaa", sum := "332ecaac82f7341ac730cf01f0b4b0f4ba0c31d9b4980468df2660eaa4662dd7", func := "loop.example/g03017/laws.FnExactHeightAt", spec := "fnExactHeightAt", unfollowed := true, recurses := true, apart := false }
def FnExactHeightAtSaid : Prop := fnExactHeightAtRow.holds Try.pinned (OpenSpec.ofChange fnExactHeightAtSpec)

/-- ITS FALSE NEIGHBOUR: 'it returns false'. Refute it at one input. -/
def fnExactHeightAtWrong : ChangeSpec := { name := "fnExactHeightAt", fn := fun _ => fun
  | [d1, d2] => { results := [.lit (.bool false)], args := [d1, d2] }
  | _ => none }
def FnExactHeightAtWrongFalsely : Prop := fnExactHeightAtRow.holds Try.pinned (OpenSpec.ofChange fnExactHeightAtWrong)

/-- 'laws.FnExactPlaceAt': WHATEVER THE INPUT: true; the input reads as it did. -/
def fnExactPlaceAtSpec : ChangeSpec := { name := "fnExactPlaceAt", fn := fun _ => fun
  | [d1, d2] => { results := [.lit (.bool true)], args := [d1, d2] }
  | _ => none }
def fnExactPlaceAtRow : OpenClaim := { program := "ytbbdbmelohaonaa", sum := "332ecaac82f7341ac730cf01f0b4b0f4ba0c31d9b4980468df2660eaa4662dd7", func := "loop.example/g03017/laws.FnExactPlaceAt", spec := "fnExactPlaceAt", unfollowed := true, recurses := true, apart := false }
def FnExactPlaceAtSaid : Prop := fnExactPlaceAtRow.holds Try.pinned (OpenSpec.ofChange fnExactPlaceAtSpec)

/-- ITS FALSE NEIGHBOUR: 'it returns false'. Refute it at one input. -/
def fnExactPlaceAtWrong : ChangeSpec := { name := "fnExactPlaceAt", fn := fun _ => fun
  | [d1, d2] => { results := [.lit (.bool false)], args := [d1, d2] }
  | _ => none }
def FnExactPlaceAtWrongFalsely : Prop := fnExactPlaceAtRow.holds Try.pinned (OpenSpec.ofChange fnExactPlaceAtWrong)

/-- 'laws.FnExactLandingOf': WHATEVER THE INPUT: true; the input reads as it did. -/
def fnExactLandingOfSpec : ChangeSpec := { name := "fnExactLandingOf", fn := fun _ => fun
  | [d] => { results := [.lit (.bool true)], args := [d] }
  | _ => none }
def fnExactLandingOfRow : OpenClaim := { program := "ytbbdbmelohaonaa", sum := "332ecaac82f7341ac730cf01f0b4b0f4ba0c31d9b4980468df2660eaa4662dd7", func := "loop.example/g03017/laws.FnExactLandingOf", spec := "fnExactLandingOf", unfollowed := true, recurses := true, apart := false }
def FnExactLandingOfSaid : Prop := fnExactLandingOfRow.holds Try.pinned (OpenSpec.ofChange fnExactLandingOfSpec)

/-- ITS FALSE NEIGHBOUR: 'it returns false'. Refute it at one input. -/
def fnExactLandingOfWrong : ChangeSpec := { name := "fnExactLandingOf", fn := fun _ => fun
  | [d] => { results := [.lit (.bool false)], args := [d] }
  | _ => none }
def FnExactLandingOfWrongFalsely : Prop := fnExactLandingOfRow.holds Try.pinned (OpenSpec.ofChange fnExactLandingOfWrong)

/-- 'laws.FnExactPeakOf': WHATEVER THE INPUT: true; the input reads as it did. -/
def fnExactPeakOfSpec : ChangeSpec := { name := "fnExactPeakOf", fn := fun _ => fun
  | [d] => { results := [.lit (.bool true)], args := [d] }
  | _ => none }
def fnExactPeakOfRow : OpenClaim := { program := "ytbbdbmelohaonaa", sum := "332ecaac82f7341ac730cf01f0b4b0f4ba0c31d9b4980468df2660eaa4662dd7", func := "loop.example/g03017/laws.FnExactPeakOf", spec := "fnExactPeakOf", unfollowed := true, recurses := true, apart := false }
def FnExactPeakOfSaid : Prop := fnExactPeakOfRow.holds Try.pinned (OpenSpec.ofChange fnExactPeakOfSpec)

/-- ITS FALSE NEIGHBOUR: 'it returns false'. Refute it at one input. -/
def fnExactPeakOfWrong : ChangeSpec := { name := "fnExactPeakOf", fn := fun _ => fun
  | [d] => { results := [.lit (.bool false)], args := [d] }
  | _ => none }
def FnExactPeakOfWrongFalsely : Prop := fnExactPeakOfRow.holds Try.pinned (OpenSpec.ofChange fnExactPeakOfWrong)

/-- 'laws.FnExactReachOf': WHATEVER THE INPUT: true; the input reads as it did. -/
def fnExactReachOfSpec : ChangeSpec := { name := "fnExactReachOf", fn := fun _ => fun
  | [d] => { results := [.lit (.bool true)], args := [d] }
  | _ => none }
def fnExactReachOfRow : OpenClaim := { program := "ytbbdbmelohaonaa", sum := "332ecaac82f7341ac730cf01f0b4b0f4ba0c31d9b4980468df2660eaa4662dd7", func := "loop.example/g03017/laws.FnExactReachOf", spec := "fnExactReachOf", unfollowed := true, recurses := true, apart := false }
def FnExactReachOfSaid : Prop := fnExactReachOfRow.holds Try.pinned (OpenSpec.ofChange fnExactReachOfSpec)

/-- ITS FALSE NEIGHBOUR: 'it returns false'. Refute it at one input. -/
def fnExactReachOfWrong : ChangeSpec := { name := "fnExactReachOf", fn := fun _ => fun
  | [d] => { results := [.lit (.bool false)], args := [d] }
  | _ => none }
def FnExactReachOfWrongFalsely : Prop := fnExactReachOfRow.holds Try.pinned (OpenSpec.ofChange fnExactReachOfWrong)

/-- 'laws.FnExactLiftFor': WHATEVER THE INPUT: true; the input reads as it did. -/
def fnExactLiftForSpec : ChangeSpec := { name := "fnExactLiftFor", fn := fun _ => fun
  | [d] => { results := [.lit (.bool true)], args := [d] }
  | _ => none }
def fnExactLiftForRow : OpenClaim := { program := "ytbbdbmelohaonaa", sum := "332ecaac82f7341ac730cf01f0b4b0f4ba0c31d9b4980468df2660eaa4662dd7", func := "loop.example/g03017/laws.FnExactLiftFor", spec := "fnExactLiftFor", unfollowed := true, recurses := true, apart := false }
def FnExactLiftForSaid : Prop := fnExactLiftForRow.holds Try.pinned (OpenSpec.ofChange fnExactLiftForSpec)

/-- ITS FALSE NEIGHBOUR: 'it returns false'. Refute it at one input. -/
def fnExactLiftForWrong : ChangeSpec := { name := "fnExactLiftFor", fn := fun _ => fun
  | [d] => { results := [.lit (.bool false)], args := [d] }
  | _ => none }
def FnExactLiftForWrongFalsely : Prop := fnExactLiftForRow.holds Try.pinned (OpenSpec.ofChange fnExactLiftForWrong)

/-- 'laws.FnExactAimJet': WHATEVER THE INPUT: true; the input reads as it did. -/
def fnExactAimJetSpec : ChangeSpec := { name := "fnExactAimJet", fn := fun _ => fun
  | [d1, d2, d3] => { results := [.lit (.bool true)], args := [d1, d2, d3] }
  | _ => none }
def fnExactAimJetRow : OpenClaim := { program := "ytbbdbmelohaonaa", sum := "332ecaac82f7341ac730cf01f0b4b0f4ba0c31d9b4980468df2660eaa4662dd7", func := "loop.example/g03017/laws.FnExactAimJet", spec := "fnExactAimJet", unfollowed := true, recurses := true, apart := false }
def FnExactAimJetSaid : Prop := fnExactAimJetRow.holds Try.pinned (OpenSpec.ofChange fnExactAimJetSpec)

/-- ITS FALSE NEIGHBOUR: 'it returns false'. Refute it at one input. -/
def fnExactAimJetWrong : ChangeSpec := { name := "fnExactAimJet", fn := fun _ => fun
  | [d1, d2, d3] => { results := [.lit (.bool false)], args := [d1, d2, d3] }
  | _ => none }
def FnExactAimJetWrongFalsely : Prop := fnExactAimJetRow.holds Try.pinned (OpenSpec.ofChange fnExactAimJetWrong)

/-- 'laws.FnExactTurnJet': WHATEVER THE INPUT: true; the input reads as it did. -/
def fnExactTurnJetSpec : ChangeSpec := { name := "fnExactTurnJet", fn := fun _ => fun
  | [d1, d2] => { results := [.lit (.bool true)], args := [d1, d2] }
  | _ => none }
def fnExactTurnJetRow : OpenClaim := { program := "ytbbdbmelohaonaa", sum := "332ecaac82f7341ac730cf01f0b4b0f4ba0c31d9b4980468df2660eaa4662dd7", func := "loop.example/g03017/laws.FnExactTurnJet", spec := "fnExactTurnJet", apart := false }
def FnExactTurnJetSaid : Prop := fnExactTurnJetRow.holds Try.pinned (OpenSpec.ofChange fnExactTurnJetSpec)

/-- ITS FALSE NEIGHBOUR: 'it returns false'. Refute it at one input. -/
def fnExactTurnJetWrong : ChangeSpec := { name := "fnExactTurnJet", fn := fun _ => fun
  | [d1, d2] => { results := [.lit (.bool false)], args := [d1, d2] }
  | _ => none }
def FnExactTurnJetWrongFalsely : Prop := fnExactTurnJetRow.holds Try.pinned (OpenSpec.ofChange fnExactTurnJetWrong)

/-- 'laws.FnExactShiftJet': WHATEVER THE INPUT: true; the input reads as it did. -/
def fnExactShiftJetSpec : ChangeSpec := { name := "fnExactShiftJet", fn := fun _ => fun
  | [d1, d2] => { results := [.lit (.bool true)], args := [d1, d2] }
  | _ => none }
def fnExactShiftJetRow : OpenClaim := { program := "ytbbdbmelohaonaa", sum := "332ecaac82f7341ac730cf01f0b4b0f4ba0c31d9b4980468df2660eaa4662dd7", func := "loop.example/g03017/laws.FnExactShiftJet", spec := "fnExactShiftJet", apart := false }
def FnExactShiftJetSaid : Prop := fnExactShiftJetRow.holds Try.pinned (OpenSpec.ofChange fnExactShiftJetSpec)

/-- ITS FALSE NEIGHBOUR: 'it returns false'. Refute it at one input. -/
def fnExactShiftJetWrong : ChangeSpec := { name := "fnExactShiftJet", fn := fun _ => fun
  | [d1, d2] => { results := [.lit (.bool false)], args := [d1, d2] }
  | _ => none }
def FnExactShiftJetWrongFalsely : Prop := fnExactShiftJetRow.holds Try.pinned (OpenSpec.ofChange fnExactShiftJetWrong)

/-- 'laws.FnExactMeetingsOf': WHATEVER THE INPUT: true; the input reads as it did. -/
def fnExactMeetingsOfSpec : ChangeSpec := { name := "fnExactMeetingsOf", fn := fun _ => fun
  | [d1, d2] => { results := [.lit (.bool true)], args := [d1, d2] }
  | _ => none }
def fnExactMeetingsOfRow : OpenClaim := { program := "ytbbdbmelohaonaa", sum := "332ecaac82f7341ac730cf01f0b4b0f4ba0c31d9b4980468df2660eaa4662dd7", func := "loop.example/g03017/laws.FnExactMeetingsOf", spec := "fnExactMeetingsOf", unfollowed := true, recurses := true, apart := false }
def FnExactMeetingsOfSaid : Prop := fnExactMeetingsOfRow.holds Try.pinned (OpenSpec.ofChange fnExactMeetingsOfSpec)

/-- ITS FALSE NEIGHBOUR: 'it returns false'. Refute it at one input. -/
def fnExactMeetingsOfWrong : ChangeSpec := { name := "fnExactMeetingsOf", fn := fun _ => fun
  | [d1, d2] => { results := [.lit (.bool false)], args := [d1, d2] }
  | _ => none }
def FnExactMeetingsOfWrongFalsely : Prop := fnExactMeetingsOfRow.holds Try.pinned (OpenSpec.ofChange fnExactMeetingsOfWrong)

/- THE SECOND FORM. 'bulk': how many values and letters a reading holds, each counted each time it is reached (what is shared counts as often as it is met; a slice's spare places count too). A statement '..UptoSaid' is the law's where the arguments, and the package variables that the reading takes, are together of bulk at most 1048576: NARROWER than '..Said'. Prove '..Said' where nothing that the law and all that it calls make is longer than what came in: it says more and counts as full. Else prove '..UptoSaid'. A law counts once. -/
mutual
def uptoBulk {H : Type} : DataW H → Nat
  | .lit (.string bytes) => bytes.length + 1
  | .lit _ => 1
  | .nil => 1
  | .ptr d => uptoBulk d + 1
  | .slice elems spare => uptoBulkAll elems + uptoBulkAll spare + 1
  | .agg parts => uptoBulkAll parts + 1
  | .iface _ d => uptoBulk d + 1
  | .map entries => uptoBulkEntries entries + 1
  | .held _ => 1
def uptoBulkAll {H : Type} : List (DataW H) → Nat
  | [] => 0
  | d :: r => uptoBulk d + uptoBulkAll r
def uptoBulkEntries {H : Type} : List (Lit × DataW H) → Nat
  | [] => 0
  | x :: r => uptoBulkEntry x + uptoBulkEntries r
def uptoBulkEntry {H : Type} : Lit × DataW H → Nat
  | (.string bytes, d) => bytes.length + uptoBulk d + 1
  | (_, d) => uptoBulk d + 1
 end
def uptoSmall : (H : Type) → List (DataW H) → Bool := fun _ ds => decide (uptoBulkAll ds ≤ 1048576)
def OpenSpec.upto (s : _root_.Go.ChangeSpec) : _root_.Go.OpenSpec := { _root_.Go.OpenSpec.ofChange s with cond := some uptoSmall }

/-- 'laws.FnExactIsJet', WHERE WHAT IT READS IS OF BULK AT MOST 1048576: true; the input reads as it did. -/
def fnExactIsJetUptoRow : OpenClaim := { program := "ytbbdbmelohaonaa", sum := "332ecaac82f7341ac730cf01f0b4b0f4ba0c31d9b4980468df2660eaa4662dd7", func := "loop.example/g03017/laws.FnExactIsJet", spec := "fnExactIsJet", apart := false, narrowed := true }
def FnExactIsJetUptoSaid : Prop := fnExactIsJetUptoRow.holds Try.pinned (OpenSpec.upto fnExactIsJetSpec)

/-- 'laws.FnExactFlightOf', WHERE WHAT IT READS IS OF BULK AT MOST 1048576: true; the input reads as it did. -/
def fnExactFlightOfUptoRow : OpenClaim := { program := "ytbbdbmelohaonaa", sum := "332ecaac82f7341ac730cf01f0b4b0f4ba0c31d9b4980468df2660eaa4662dd7", func := "loop.example/g03017/laws.FnExactFlightOf", spec := "fnExactFlightOf", unfollowed := true, recurses := true, apart := false, narrowed := true }
def FnExactFlightOfUptoSaid : Prop := fnExactFlightOfUptoRow.holds Try.pinned (OpenSpec.upto fnExactFlightOfSpec)

/-- 'laws.FnExactHeightAt', WHERE WHAT IT READS IS OF BULK AT MOST 1048576: true; the input reads as it did. -/
def fnExactHeightAtUptoRow : OpenClaim := { program := "ytbbdbmelohaonaa", sum := "332ecaac82f7341ac730cf01f0b4b0f4ba0c31d9b4980468df2660eaa4662dd7", func := "loop.example/g03017/laws.FnExactHeightAt", spec := "fnExactHeightAt", unfollowed := true, recurses := true, apart := false, narrowed := true }
def FnExactHeightAtUptoSaid : Prop := fnExactHeightAtUptoRow.holds Try.pinned (OpenSpec.upto fnExactHeightAtSpec)

/-- 'laws.FnExactPlaceAt', WHERE WHAT IT READS IS OF BULK AT MOST 1048576: true; the input reads as it did. -/
def fnExactPlaceAtUptoRow : OpenClaim := { program := "ytbbdbmelohaonaa", sum := "332ecaac82f7341ac730cf01f0b4b0f4ba0c31d9b4980468df2660eaa4662dd7", func := "loop.example/g03017/laws.FnExactPlaceAt", spec := "fnExactPlaceAt", unfollowed := true, recurses := true, apart := false, narrowed := true }
def FnExactPlaceAtUptoSaid : Prop := fnExactPlaceAtUptoRow.holds Try.pinned (OpenSpec.upto fnExactPlaceAtSpec)

/-- 'laws.FnExactLandingOf', WHERE WHAT IT READS IS OF BULK AT MOST 1048576: true; the input reads as it did. -/
def fnExactLandingOfUptoRow : OpenClaim := { program := "ytbbdbmelohaonaa", sum := "332ecaac82f7341ac730cf01f0b4b0f4ba0c31d9b4980468df2660eaa4662dd7", func := "loop.example/g03017/laws.FnExactLandingOf", spec := "fnExactLandingOf", unfollowed := true, recurses := true, apart := false, narrowed := true }
def FnExactLandingOfUptoSaid : Prop := fnExactLandingOfUptoRow.holds Try.pinned (OpenSpec.upto fnExactLandingOfSpec)

/-- 'laws.FnExactPeakOf', WHERE WHAT IT READS IS OF BULK AT MOST 1048576: true; the input reads as it did. -/
def fnExactPeakOfUptoRow : OpenClaim := { program := "ytbbdbmelohaonaa", sum := "332ecaac82f7341ac730cf01f0b4b0f4ba0c31d9b4980468df2660eaa4662dd7", func := "loop.example/g03017/laws.FnExactPeakOf", spec := "fnExactPeakOf", unfollowed := true, recurses := true, apart := false, narrowed := true }
def FnExactPeakOfUptoSaid : Prop := fnExactPeakOfUptoRow.holds Try.pinned (OpenSpec.upto fnExactPeakOfSpec)

/-- 'laws.FnExactReachOf', WHERE WHAT IT READS IS OF BULK AT MOST 1048576: true; the input reads as it did. -/
def fnExactReachOfUptoRow : OpenClaim := { program := "ytbbdbmelohaonaa", sum := "332ecaac82f7341ac730cf01f0b4b0f4ba0c31d9b4980468df2660eaa4662dd7", func := "loop.example/g03017/laws.FnExactReachOf", spec := "fnExactReachOf", unfollowed := true, recurses := true, apart := false, narrowed := true }
def FnExactReachOfUptoSaid : Prop := fnExactReachOfUptoRow.holds Try.pinned (OpenSpec.upto fnExactReachOfSpec)

/-- 'laws.FnExactLiftFor', WHERE WHAT IT READS IS OF BULK AT MOST 1048576: true; the input reads as it did. -/
def fnExactLiftForUptoRow : OpenClaim := { program := "ytbbdbmelohaonaa", sum := "332ecaac82f7341ac730cf01f0b4b0f4ba0c31d9b4980468df2660eaa4662dd7", func := "loop.example/g03017/laws.FnExactLiftFor", spec := "fnExactLiftFor", unfollowed := true, recurses := true, apart := false, narrowed := true }
def FnExactLiftForUptoSaid : Prop := fnExactLiftForUptoRow.holds Try.pinned (OpenSpec.upto fnExactLiftForSpec)

/-- 'laws.FnExactAimJet', WHERE WHAT IT READS IS OF BULK AT MOST 1048576: true; the input reads as it did. -/
def fnExactAimJetUptoRow : OpenClaim := { program := "ytbbdbmelohaonaa", sum := "332ecaac82f7341ac730cf01f0b4b0f4ba0c31d9b4980468df2660eaa4662dd7", func := "loop.example/g03017/laws.FnExactAimJet", spec := "fnExactAimJet", unfollowed := true, recurses := true, apart := false, narrowed := true }
def FnExactAimJetUptoSaid : Prop := fnExactAimJetUptoRow.holds Try.pinned (OpenSpec.upto fnExactAimJetSpec)

/-- 'laws.FnExactTurnJet', WHERE WHAT IT READS IS OF BULK AT MOST 1048576: true; the input reads as it did. -/
def fnExactTurnJetUptoRow : OpenClaim := { program := "ytbbdbmelohaonaa", sum := "332ecaac82f7341ac730cf01f0b4b0f4ba0c31d9b4980468df2660eaa4662dd7", func := "loop.example/g03017/laws.FnExactTurnJet", spec := "fnExactTurnJet", apart := false, narrowed := true }
def FnExactTurnJetUptoSaid : Prop := fnExactTurnJetUptoRow.holds Try.pinned (OpenSpec.upto fnExactTurnJetSpec)

/-- 'laws.FnExactShiftJet', WHERE WHAT IT READS IS OF BULK AT MOST 1048576: true; the input reads as it did. -/
def fnExactShiftJetUptoRow : OpenClaim := { program := "ytbbdbmelohaonaa", sum := "332ecaac82f7341ac730cf01f0b4b0f4ba0c31d9b4980468df2660eaa4662dd7", func := "loop.example/g03017/laws.FnExactShiftJet", spec := "fnExactShiftJet", apart := false, narrowed := true }
def FnExactShiftJetUptoSaid : Prop := fnExactShiftJetUptoRow.holds Try.pinned (OpenSpec.upto fnExactShiftJetSpec)

/-- 'laws.FnExactMeetingsOf', WHERE WHAT IT READS IS OF BULK AT MOST 1048576: true; the input reads as it did. -/
def fnExactMeetingsOfUptoRow : OpenClaim := { program := "ytbbdbmelohaonaa", sum := "332ecaac82f7341ac730cf01f0b4b0f4ba0c31d9b4980468df2660eaa4662dd7", func := "loop.example/g03017/laws.FnExactMeetingsOf", spec := "fnExactMeetingsOf", unfollowed := true, recurses := true, apart := false, narrowed := true }
def FnExactMeetingsOfUptoSaid : Prop := fnExactMeetingsOfUptoRow.holds Try.pinned (OpenSpec.upto fnExactMeetingsOfSpec)

end Rows
end Go.Proofs.Ytbbdbmelohaonaa
