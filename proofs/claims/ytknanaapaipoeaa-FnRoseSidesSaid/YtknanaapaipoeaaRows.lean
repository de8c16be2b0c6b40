/-
  No cell of these rows narrows 'for every input' (looked for: loops, veiled, ifaces, maps, wideKeys, modest, calm, conditions, laid).
  DERIVED. THE GIVEN ROWS OF THIS SEAT. 12 by the template 'for every input the law returns true; each argument reads behind the call as it read before'; 0 by the template 'total and deterministic' (their statements: YtknanaapaipoeaaTotals.lean).
  GIVEN WITH THE SEED: the statements are not yours to turn. If you find one false, say at which input.
  Laid BY PROGRAM, IN A SANDBOX (cutbox-rows.mjs): the forced cells as the released guide's own fill.sh prints them over the translation b8751d95cdd42073… (all of the seat's roots in one cut). By AI agents, Wed Nov 11 2026. No macro, syntax, notation, axiom, sorry.
-/
import Derived.Test.YtknanaapaipoeaaChecked
import GoSem.Claim
import GoSem.ClaimJoined
import GoSem.ClaimMapViews
import Derived.JoinedTies
import Derived.KernelRfl
namespace Go.Proofs.Ytknanaapaipoeaa
/- THE CELL 'sum', in the pinned program and in every row, IS THE sha256 OF THE DUMP (.gsa) THAT YtknanaapaipoeaaProg.lean LOADS. Nothing in Lean hashes anything: it is a label: what it is worth is what the hold of that sum in a sandbox is worth. -/
noncomputable def Try.pinned : Pinned := { name := "ytknanaapaipoeaa", sum := "b8751d95cdd42073ccf824d1be9a9e384a3396a806d0f5822c3e50808c94f23c", checked := Try.checked }
namespace Rows
def none {H : Type} : Left H := { results := [], args := [] }

/-- 'laws.FnDrifts': WHATEVER THE INPUT: true; the input reads as it did. -/
def fnDriftsSpec : ChangeSpec := { name := "fnDrifts", fn := fun _ => fun
  | [d] => { results := [.lit (.bool true)], args := [d] }
  | _ => none }
def fnDriftsRow : OpenClaim := { program := "ytknanaapaipoeaa", sum := "b8751d95cdd42073ccf824d1be9a9e384a3396a806d0f5822c3e50808c94f23c", func := "loop.example/g03017/laws.FnDrifts", spec := "fnDrifts", apart := false }
def FnDriftsSaid : Prop := fnDriftsRow.holds Try.pinned (OpenSpec.ofChange fnDriftsSpec)

/-- ITS FALSE NEIGHBOUR: 'it returns false'. Refute it at one input. -/
def fnDriftsWrong : ChangeSpec := { name := "fnDrifts", fn := fun _ => fun
  | [d] => { results := [.lit (.bool false)], args := [d] }
  | _ => none }
def FnDriftsWrongFalsely : Prop := fnDriftsRow.holds Try.pinned (OpenSpec.ofChange fnDriftsWrong)

/-- 'laws.FnNormal': WHATEVER THE INPUT: true; the input reads as it did. -/
def fnNormalSpec : ChangeSpec := { name := "fnNormal", fn := fun _ => fun
  | [d] => { results := [.lit (.bool true)], args := [d] }
  | _ => none }
def fnNormalRow : OpenClaim := { program := "ytknanaapaipoeaa", sum := "b8751d95cdd42073ccf824d1be9a9e384a3396a806d0f5822c3e50808c94f23c", func := "loop.example/g03017/laws.FnNormal", spec := "fnNormal", apart := false }
def FnNormalSaid : Prop := fnNormalRow.holds Try.pinned (OpenSpec.ofChange fnNormalSpec)

/-- ITS FALSE NEIGHBOUR: 'it returns false'. Refute it at one input. -/
def fnNormalWrong : ChangeSpec := { name := "fnNormal", fn := fun _ => fun
  | [d] => { results := [.lit (.bool false)], args := [d] }
  | _ => none }
def FnNormalWrongFalsely : Prop := fnNormalRow.holds Try.pinned (OpenSpec.ofChange fnNormalWrong)

/-- 'laws.FnLater': WHATEVER THE INPUT: true; the input reads as it did. -/
def fnLaterSpec : ChangeSpec := { name := "fnLater", fn := fun _ => fun
  | [d] => { results := [.lit (.bool true)], args := [d] }
  | _ => none }
def fnLaterRow : OpenClaim := { program := "ytknanaapaipoeaa", sum := "b8751d95cdd42073ccf824d1be9a9e384a3396a806d0f5822c3e50808c94f23c", func := "loop.example/g03017/laws.FnLater", spec := "fnLater", apart := false }
def FnLaterSaid : Prop := fnLaterRow.holds Try.pinned (OpenSpec.ofChange fnLaterSpec)

/-- ITS FALSE NEIGHBOUR: 'it returns false'. Refute it at one input. -/
def fnLaterWrong : ChangeSpec := { name := "fnLater", fn := fun _ => fun
  | [d] => { results := [.lit (.bool false)], args := [d] }
  | _ => none }
def FnLaterWrongFalsely : Prop := fnLaterRow.holds Try.pinned (OpenSpec.ofChange fnLaterWrong)

/-- 'laws.FnJoined': WHATEVER THE INPUT: true; the input reads as it did. -/
def fnJoinedSpec : ChangeSpec := { name := "fnJoined", fn := fun _ => fun
  | [d] => { results := [.lit (.bool true)], args := [d] }
  | _ => none }
def fnJoinedRow : OpenClaim := { program := "ytknanaapaipoeaa", sum := "b8751d95cdd42073ccf824d1be9a9e384a3396a806d0f5822c3e50808c94f23c", func := "loop.example/g03017/laws.FnJoined", spec := "fnJoined", apart := false }
def FnJoinedSaid : Prop := fnJoinedRow.holds Try.pinned (OpenSpec.ofChange fnJoinedSpec)

/-- ITS FALSE NEIGHBOUR: 'it returns false'. Refute it at one input. -/
def fnJoinedWrong : ChangeSpec := { name := "fnJoined", fn := fun _ => fun
  | [d] => { results := [.lit (.bool false)], args := [d] }
  | _ => none }
def FnJoinedWrongFalsely : Prop := fnJoinedRow.holds Try.pinned (OpenSpec.ofChange fnJoinedWrong)

/-- 'laws.FnTurnedWind': WHATEVER THE INPUT: true; the input reads as it did. -/
def fnTurnedWindSpec : ChangeSpec := { name := "fnTurnedWind", fn := fun _ => fun
  | [d] => { results := [.lit (.bool true)], args := [d] }
  | _ => none }
def fnTurnedWindRow : OpenClaim := { program := "ytknanaapaipoeaa", sum := "b8751d95cdd42073ccf824d1be9a9e384a3396a806d0f5822c3e50808c94f23c", func := "loop.example/g03017/laws.FnTurnedWind", spec := "fnTurnedWind", apart := false }
def FnTurnedWindSaid : Prop := fnTurnedWindRow.holds Try.pinned (OpenSpec.ofChange fnTurnedWindSpec)

/-- ITS FALSE NEIGHBOUR: 'it returns false'. Refute it at one input. -/
def fnTurnedWindWrong : ChangeSpec := { name := "fnTurnedWind", fn := fun _ => fun
  | [d] => { results := [.lit (.bool false)], args := [d] }
  | _ => none }
def FnTurnedWindWrongFalsely : Prop := fnTurnedWindRow.holds Try.pinned (OpenSpec.ofChange fnTurnedWindWrong)

/-- 'laws.FnRoseSums': WHATEVER THE INPUT: true; the input reads as it did. -/
def fnRoseSumsSpec : ChangeSpec := { name := "fnRoseSums", fn := fun _ => fun
  | [d] => { results := [.lit (.bool true)], args := [d] }
  | _ => none }
def fnRoseSumsRow : OpenClaim := { program := "ytknanaapaipoeaa", sum := "b8751d95cdd42073ccf824d1be9a9e384a3396a806d0f5822c3e50808c94f23c", func := "loop.example/g03017/laws.FnRoseSums", spec := "fnRoseSums", apart := false }
def FnRoseSumsSaid : Prop := fnRoseSumsRow.holds Try.pinned (OpenSpec.ofChange fnRoseSumsSpec)

/-- ITS FALSE NEIGHBOUR: 'it returns false'. Refute it at one input. -/
def fnRoseSumsWrong : ChangeSpec := { name := "fnRoseSums", fn := fun _ => fun
  | [d] => { results := [.lit (.bool false)], args := [d] }
  | _ => none }
def FnRoseSumsWrongFalsely : Prop := fnRoseSumsRow.holds Try.pinned (OpenSpec.ofChange fnRoseSumsWrong)

/-- 'laws.FnRoseSides': WHATEVER THE INPUT: true; the input reads as it did. -/
def fnRoseSidesSpec : ChangeSpec := { name := "fnRoseSides", fn := fun _ => fun
  | [d] => { results := [.lit (.bool true)], args := [d] }
  | _ => none }
def fnRoseSidesRow : OpenClaim := { program := "ytknanaapaipoeaa", sum := "b8751d95cdd42073ccf824d1be9a9e384a3396a806d0f5822c3e50808c94f23c", func := "loop.example/g03017/laws.FnRoseSides", spec := "fnRoseSides", apart := false }
def FnRoseSidesSaid : Prop := fnRoseSidesRow.holds Try.pinned (OpenSpec.ofChange fnRoseSidesSpec)

/-- ITS FALSE NEIGHBOUR: 'it returns false'. Refute it at one input. -/
def fnRoseSidesWrong : ChangeSpec := { name := "fnRoseSides", fn := fun _ => fun
  | [d] => { results := [.lit (.bool false)], args := [d] }
  | _ => none }
def FnRoseSidesWrongFalsely : Prop := fnRoseSidesRow.holds Try.pinned (OpenSpec.ofChange fnRoseSidesWrong)

/-- 'laws.FnExactJoinWinds': WHATEVER THE INPUT: true; the input reads as it did. -/
def fnExactJoinWindsSpec : ChangeSpec := { name := "fnExactJoinWinds", fn := fun _ => fun
  | [d1, d2, d3] => { results := [.lit (.bool true)], args := [d1, d2, d3] }
  | _ => none }
def fnExactJoinWindsRow : OpenClaim := { program := "ytknanaapaipoeaa", sum := "b8751d95cdd42073ccf824d1be9a9e384a3396a806d0f5822c3e50808c94f23c", func := "loop.example/g03017/laws.FnExactJoinWinds", spec := "fnExactJoinWinds", apart := false }
def FnExactJoinWindsSaid : Prop := fnExactJoinWindsRow.holds Try.pinned (OpenSpec.ofChange fnExactJoinWindsSpec)

/-- ITS FALSE NEIGHBOUR: 'it returns false'. Refute it at one input. -/
def fnExactJoinWindsWrong : ChangeSpec := { name := "fnExactJoinWinds", fn := fun _ => fun
  | [d1, d2, d3] => { results := [.lit (.bool false)], args := [d1, d2, d3] }
  | _ => none }
def FnExactJoinWindsWrongFalsely : Prop := fnExactJoinWindsRow.holds Try.pinned (OpenSpec.ofChange fnExactJoinWindsWrong)

/-- 'laws.FnExactTurnWind': WHATEVER THE INPUT: true; the input reads as it did. -/
def fnExactTurnWindSpec : ChangeSpec := { name := "fnExactTurnWind", fn := fun _ => fun
  | [d1, d2] => { results := [.lit (.bool true)], args := [d1, d2] }
  | _ => none }
def fnExactTurnWindRow : OpenClaim := { program := "ytknanaapaipoeaa", sum := "b8751d95cdd42073ccf824d1be9a9e384a3396a806d0f5822c3e50808c94f23c", func := "loop.example/g03017/laws.FnExactTurnWind", spec := "fnExactTurnWind", apart := false }
def FnExactTurnWindSaid : Prop := fnExactTurnWindRow.holds Try.pinned (OpenSpec.ofChange fnExactTurnWindSpec)

/-- ITS FALSE NEIGHBOUR: 'it returns false'. Refute it at one input. -/
def fnExactTurnWindWrong : ChangeSpec := { name := "fnExactTurnWind", fn := fun _ => fun
  | [d1, d2] => { results := [.lit (.bool false)], args := [d1, d2] }
  | _ => none }
def FnExactTurnWindWrongFalsely : Prop := fnExactTurnWindRow.holds Try.pinned (OpenSpec.ofChange fnExactTurnWindWrong)

/-- 'laws.FnExactFitsRose': WHATEVER THE INPUT: true; the input reads as it did. -/
def fnExactFitsRoseSpec : ChangeSpec := { name := "fnExactFitsRose", fn := fun _ => fun
  | [d1, d2, d3] => { results := [.lit (.bool true)], args := [d1, d2, d3] }
  | _ => none }
def fnExactFitsRoseRow : OpenClaim := { program := "ytknanaapaipoeaa", sum := "b8751d95cdd42073ccf824d1be9a9e384a3396a806d0f5822c3e50808c94f23c", func := "loop.example/g03017/laws.FnExactFitsRose", spec := "fnExactFitsRose", apart := false }
def FnExactFitsRoseSaid : Prop := fnExactFitsRoseRow.holds Try.pinned (OpenSpec.ofChange fnExactFitsRoseSpec)

/-- ITS FALSE NEIGHBOUR: 'it returns false'. Refute it at one input. -/
def fnExactFitsRoseWrong : ChangeSpec := { name := "fnExactFitsRose", fn := fun _ => fun
  | [d1, d2, d3] => { results := [.lit (.bool false)], args := [d1, d2, d3] }
  | _ => none }
def FnExactFitsRoseWrongFalsely : Prop := fnExactFitsRoseRow.holds Try.pinned (OpenSpec.ofChange fnExactFitsRoseWrong)

/-- 'laws.FnExactRoseBox': WHATEVER THE INPUT: true; the input reads as it did. -/
def fnExactRoseBoxSpec : ChangeSpec := { name := "fnExactRoseBox", fn := fun _ => fun
  | [d1, d2] => { results := [.lit (.bool true)], args := [d1, d2] }
  | _ => none }
def fnExactRoseBoxRow : OpenClaim := { program := "ytknanaapaipoeaa", sum := "b8751d95cdd42073ccf824d1be9a9e384a3396a806d0f5822c3e50808c94f23c", func := "loop.example/g03017/laws.FnExactRoseBox", spec := "fnExactRoseBox", apart := false }
def FnExactRoseBoxSaid : Prop := fnExactRoseBoxRow.holds Try.pinned (OpenSpec.ofChange fnExactRoseBoxSpec)

/-- ITS FALSE NEIGHBOUR: 'it returns false'. Refute it at one input. -/
def fnExactRoseBoxWrong : ChangeSpec := { name := "fnExactRoseBox", fn := fun _ => fun
  | [d1, d2] => { results := [.lit (.bool false)], args := [d1, d2] }
  | _ => none }
def FnExactRoseBoxWrongFalsely : Prop := fnExactRoseBoxRow.holds Try.pinned (OpenSpec.ofChange fnExactRoseBoxWrong)

/-- 'laws.FnExactWorstDrift': WHATEVER THE INPUT: true; the input reads as it did. -/
def fnExactWorstDriftSpec : ChangeSpec := { name := "fnExactWorstDrift", fn := fun _ => fun
  | [d1, d2] => { results := [.lit (.bool true)], args := [d1, d2] }
  | _ => none }
def fnExactWorstDriftRow : OpenClaim := { program := "ytknanaapaipoeaa", sum := "b8751d95cdd42073ccf824d1be9a9e384a3396a806d0f5822c3e50808c94f23c", func := "loop.example/g03017/laws.FnExactWorstDrift", spec := "fnExactWorstDrift", apart := false }
def FnExactWorstDriftSaid : Prop := fnExactWorstDriftRow.holds Try.pinned (OpenSpec.ofChange fnExactWorstDriftSpec)

/-- ITS FALSE NEIGHBOUR: 'it returns false'. Refute it at one input. -/
def fnExactWorstDriftWrong : ChangeSpec := { name := "fnExactWorstDrift", fn := fun _ => fun
  | [d1, d2] => { results := [.lit (.bool false)], args := [d1, d2] }
  | _ => none }
def FnExactWorstDriftWrongFalsely : Prop := fnExactWorstDriftRow.holds Try.pinned (OpenSpec.ofChange fnExactWorstDriftWrong)

/- THE SECOND FORM. 'bulk': how many values and letters a reading holds, each counted each time it is reached (what is shared counts as often as it is met; a slice's spare places count too). A statement '..UptoSaid' is the law's where the arguments, and the package variables that the reading takes, are together of bulk at most 1048576: NARROWER than '..Said'. Prove '..Said' where nothing that the law and all that it calls make is longer than what came in: it says more and counts as full. Else prove '..UptoSaid'. A law counts once. -/
mutual
def uptoBulk {H : Type} : DataW H → Nat
  | .lit (.string bytes) => bytes.length + 1
  | .lit _ => 1
  | .nil => 1
  | .ptr d => uptoBulk d + 1
  | .slice elems spare => uptoBulkAll elems + uptoBulkAll spare + 1
  | .agg parts => uptoBulkAll parts + 1
  | .iface _ d => uptoBulk d + 1
  | .map entries => uptoBulkEntries entries + 1
  | .held _ => 1
def uptoBulkAll {H : Type} : List (DataW H) → Nat
  | [] => 0
  | d :: r => uptoBulk d + uptoBulkAll r
def uptoBulkEntries {H : Type} : List (Lit × DataW H) → Nat
  | [] => 0
  | x :: r => uptoBulkEntry x + uptoBulkEntries r
def uptoBulkEntry {H : Type} : Lit × DataW H → Nat
  | (.string bytes, d) => bytes.length + uptoBulk d + 1
  | (_, d) => uptoBulk d + 1
 end
def uptoSmall : (H : Type) → List (DataW H) → Bool := fun _ ds => decide (uptoBulkAll ds ≤ 1048576)
def OpenSpec.upto (s : _root_.Go.ChangeSpec) : _root_.Go.OpenSpec := { _root_.Go.OpenSpec.ofChange s with cond := some uptoSmall }

/-- 'laws.FnDrifts', WHERE WHAT IT READS IS OF BULK AT MOST 1048576: true; the input reads as it did. -/
def fnDriftsUptoRow : OpenClaim := { program := "ytknanaapaipoeaa", sum := "b8751d95cdd42073ccf824d1be9a9e384a3396a806d0f5822c3e50808c94f23c", func := "loop.example/g03017/laws.FnDrifts", spec := "fnDrifts", apart := false, narrowed := true }
def FnDriftsUptoSaid : Prop := fnDriftsUptoRow.holds Try.pinned (OpenSpec.upto fnDriftsSpec)

/-- 'laws.FnNormal', WHERE WHAT IT READS IS OF BULK AT MOST 1048576: true; the input reads as it did. -/
def fnNormalUptoRow : OpenClaim := { program := "ytknanaapaipoeaa", sum := "b8751d95cdd42073ccf824d1be9a9e384a3396a806d0f5822c3e50808c94f23c", func := "loop.example/g03017/laws.FnNormal", spec := "fnNormal", apart := false, narrowed := true }
def FnNormalUptoSaid : Prop := fnNormalUptoRow.holds Try.pinned (OpenSpec.upto fnNormalSpec)

/-- 'laws.FnLater', WHERE WHAT IT READS IS OF BULK AT MOST 1048576: true; the input reads as it did. -/
def fnLaterUptoRow : OpenClaim := { program := "ytknanaapaipoeaa", sum := "b8751d95cdd42073ccf824d1be9a9e384a3396a806d0f5822c3e50808c94f23c", func := "loop.example/g03017/laws.FnLater", spec := "fnLater", apart := false, narrowed := true }
def FnLaterUptoSaid : Prop := fnLaterUptoRow.holds Try.pinned (OpenSpec.upto fnLaterSpec)

/-- 'laws.FnJoined', WHERE WHAT IT READS IS OF BULK AT MOST 1048576: true; the input reads as it did. -/
def fnJoinedUptoRow : OpenClaim := { program := "ytknanaapaipoeaa", sum := "b8751d95cdd42073ccf824d1be9a9e384a3396a806d0f5822c3e50808c94f23c", func := "loop.example/g03017/laws.FnJoined", spec := "fnJoined", apart := false, narrowed := true }
def FnJoinedUptoSaid : Prop := fnJoinedUptoRow.holds Try.pinned (OpenSpec.upto fnJoinedSpec)

/-- 'laws.FnTurnedWind', WHERE WHAT IT READS IS OF BULK AT MOST 1048576: true; the input reads as it did. -/
def fnTurnedWindUptoRow : OpenClaim := { program := "ytknanaapaipoeaa", sum := "b8751d95cdd42073ccf824d1be9a9e384a3396a806d0f5822c3e50808c94f23c", func := "loop.example/g03017/laws.FnTurnedWind", spec := "fnTurnedWind", apart := false, narrowed := true }
def FnTurnedWindUptoSaid : Prop := fnTurnedWindUptoRow.holds Try.pinned (OpenSpec.upto fnTurnedWindSpec)

/-- 'laws.FnRoseSums', WHERE WHAT IT READS IS OF BULK AT MOST 1048576: true; the input reads as it did. -/
def fnRoseSumsUptoRow : OpenClaim := { program := "ytknanaapaipoeaa", sum := "b8751d95cdd42073ccf824d1be9a9e384a3396a806d0f5822c3e50808c94f23c", func := "loop.example/g03017/laws.FnRoseSums", spec := "fnRoseSums", apart := false, narrowed := true }
def FnRoseSumsUptoSaid : Prop := fnRoseSumsUptoRow.holds Try.pinned (OpenSpec.upto fnRoseSumsSpec)

/-- 'laws.FnRoseSides', WHERE WHAT IT READS IS OF BULK AT MOST 1048576: true; the input reads as it did. -/
def fnRoseSidesUptoRow : OpenClaim := { program := "ytknanaapaipoeaa", sum := "b8751d95cdd42073ccf824d1be9a9e384a3396a806d0f5822c3e50808c94f23c", func := "loop.example/g03017/laws.FnRoseSides", spec := "fnRoseSides", apart := false, narrowed := true }
def FnRoseSidesUptoSaid : Prop := fnRoseSidesUptoRow.holds Try.pinned (OpenSpec.upto fnRoseSidesSpec)

/-- 'laws.FnExactJoinWinds', WHERE WHAT IT READS IS OF BULK AT MOST 1048576: true; the input reads as it did. -/
def fnExactJoinWindsUptoRow : OpenClaim := { program := "ytknanaapaipoeaa", sum := "b8751d95cdd42073ccf824d1be9a9e384a3396a806d0f5822c3e50808c94f23c", func := "loop.example/g03017/laws.FnExactJoinWinds", spec := "fnExactJoinWinds", apart := false, narrowed := true }
def FnExactJoinWindsUptoSaid : Prop := fnExactJoinWindsUptoRow.holds Try.pinned (OpenSpec.upto fnExactJoinWindsSpec)

/-- 'laws.FnExactTurnWind', WHERE WHAT IT READS IS OF BULK AT MOST 1048576: true; the input reads as it did. -/
def fnExactTurnWindUptoRow : OpenClaim := { program := "ytknanaapaipoeaa", sum := "b8751d95cdd42073ccf824d1be9a9e384a3396a806d0f5822c3e50808c94f23c", func := "loop.example/g03017/laws.FnExactTurnWind", spec := "fnExactTurnWind", apart := false, narrowed := true }
def FnExactTurnWindUptoSaid : Prop := fnExactTurnWindUptoRow.holds Try.pinned (OpenSpec.upto fnExactTurnWindSpec)

/-- 'laws.FnExactFitsRose', WHERE WHAT IT READS IS OF BULK AT MOST 1048576: true; the input reads as it did. -/
def fnExactFitsRoseUptoRow : OpenClaim := { program := "ytknanaapaipoeaa", sum := "b8751d95cdd42073ccf824d1be9a9e384a3396a806d0f5822c3e50808c94f23c", func := "loop.example/g03017/laws.FnExactFitsRose", spec := "fnExactFitsRose", apart := false, narrowed := true }
def FnExactFitsRoseUptoSaid : Prop := fnExactFitsRoseUptoRow.holds Try.pinned (OpenSpec.upto fnExactFitsRoseSpec)

/-- 'laws.FnExactRoseBox', WHERE WHAT IT READS IS OF BULK AT MOST 1048576: true; the input reads as it did. -/
def fnExactRoseBoxUptoRow : OpenClaim := { program := "ytknanaapaipoeaa", sum := "b8751d95cdd42073ccf824d1be9a9e384a3396a806d0f5822c3e50808c94f23c", func := "loop.example/g03017/laws.FnExactRoseBox", spec := "fnExactRoseBox", apart := false, narrowed := true }
def FnExactRoseBoxUptoSaid : Prop := fnExactRoseBoxUptoRow.holds Try.pinned (OpenSpec.upto fnExactRoseBoxSpec)

/-- 'laws.FnExactWorstDrift', WHERE WHAT IT READS IS OF BULK AT MOST 1048576: true; the input reads as it did. -/
def fnExactWorstDriftUptoRow : OpenClaim := { program := "ytknanaapaipoeaa", sum := "b8751d95cdd42073ccf824d1be9a9e384a3396a806d0f5822c3e50808c94f23c", func := "loop.example/g03017/laws.FnExactWorstDrift", spec := "fnExactWorstDrift", apart := false, narrowed := true }
def FnExactWorstDriftUptoSaid : Prop := fnExactWorstDriftUptoRow.holds Try.pinned (OpenSpec.upto fnExactWorstDriftSpec)

end Rows
end Go.Proofs.Ytknanaapaipoeaa
