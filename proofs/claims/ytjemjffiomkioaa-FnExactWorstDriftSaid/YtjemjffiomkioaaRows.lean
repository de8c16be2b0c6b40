/-
  No cell of these rows narrows 'for every input' (looked for: loops, veiled, ifaces, maps, wideKeys, modest, calm, conditions, laid).
  DERIVED. THE GIVEN ROWS OF THIS SEAT. 11 by the template 'for every input the law returns true; each argument reads behind the call as it read before'; 0 by the template 'total and deterministic' (their statements: YtjemjffiomkioaaTotals.lean).
  GIVEN WITH THE SEED: the statements are not yours to turn. If you find one false, say at which input.
  Laid BY PROGRAM, IN A SANDBOX (cutbox-rows.mjs): the forced cells as the released guide's own fill.sh prints them over the translation 36d80d93e1bb9a98… (all of the seat's roots in one cut). By AI agents, Wed Nov 11 2026. No macro, syntax, notation, axiom, sorry.
-/
import Derived.Test.YtjemjffiomkioaaChecked
import GoSem.Claim
import GoSem.ClaimJoined
import GoSem.ClaimMapViews
import Derived.JoinedTies
import Derived.KernelRfl
namespace Go.Proofs.Ytjemjffiomkioaa
/- THE CELL 'sum', in the pinned program and in every row, IS THE sha256 OF THE DUMP (.gsa) THAT YtjemjffiomkioaaProg.lean LOADS. Nothing in Lean hashes anything: it is a label: what it is worth is what the hold of that sum in a sandbox is worth. -/
noncomputable def Try.pinned : Pinned := { name := "ytjemjffiomkioaa", sum := "36d80d93e1bb9a982f6ae99d9b65770f96f28490e51d2c7169726d1f7fb4bba2", checked := Try.checked }
namespace Rows
def none {H : Type} : Left H := { results := [], args := [] }

/-- 'laws.FnExactIsWind': WHATEVER THE INPUT: true; the input reads as it did. -/
def fnExactIsWindSpec : ChangeSpec := { name := "fnExactIsWind", fn := fun _ => fun
  | [d] => { results := [.lit (.bool true)], args := [d] }
  | _ => none }
def fnExactIsWindRow : OpenClaim := { program := "ytjemjffiomkioaa", sum := "36d80d93e1bb9a982f6ae99d9b65770f96f28490e51d2c7169726d1f7fb4bba2", func := "loop.example/g03017/laws.FnExactIsWind", spec := "fnExactIsWind", apart := false }
def FnExactIsWindSaid : Prop := fnExactIsWindRow.holds Try.pinned (OpenSpec.ofChange fnExactIsWindSpec)

/-- ITS FALSE NEIGHBOUR: 'it returns false'. Refute it at one input. -/
def fnExactIsWindWrong : ChangeSpec := { name := "fnExactIsWind", fn := fun _ => fun
  | [d] => { results := [.lit (.bool false)], args := [d] }
  | _ => none }
def FnExactIsWindWrongFalsely : Prop := fnExactIsWindRow.holds Try.pinned (OpenSpec.ofChange fnExactIsWindWrong)

/-- 'laws.FnExactDriftAt': WHATEVER THE INPUT: true; the input reads as it did. -/
def fnExactDriftAtSpec : ChangeSpec := { name := "fnExactDriftAt", fn := fun _ => fun
  | [d1, d2] => { results := [.lit (.bool true)], args := [d1, d2] }
  | _ => none }
def fnExactDriftAtRow : OpenClaim := { program := "ytjemjffiomkioaa", sum := "36d80d93e1bb9a982f6ae99d9b65770f96f28490e51d2c7169726d1f7fb4bba2", func := "loop.example/g03017/laws.FnExactDriftAt", spec := "fnExactDriftAt", apart := false }
def FnExactDriftAtSaid : Prop := fnExactDriftAtRow.holds Try.pinned (OpenSpec.ofChange fnExactDriftAtSpec)

/-- ITS FALSE NEIGHBOUR: 'it returns false'. Refute it at one input. -/
def fnExactDriftAtWrong : ChangeSpec := { name := "fnExactDriftAt", fn := fun _ => fun
  | [d1, d2] => { results := [.lit (.bool false)], args := [d1, d2] }
  | _ => none }
def FnExactDriftAtWrongFalsely : Prop := fnExactDriftAtRow.holds Try.pinned (OpenSpec.ofChange fnExactDriftAtWrong)

/-- 'laws.FnExactDriftOver': WHATEVER THE INPUT: true; the input reads as it did. -/
def fnExactDriftOverSpec : ChangeSpec := { name := "fnExactDriftOver", fn := fun _ => fun
  | [d1, d2, d3] => { results := [.lit (.bool true)], args := [d1, d2, d3] }
  | _ => none }
def fnExactDriftOverRow : OpenClaim := { program := "ytjemjffiomkioaa", sum := "36d80d93e1bb9a982f6ae99d9b65770f96f28490e51d2c7169726d1f7fb4bba2", func := "loop.example/g03017/laws.FnExactDriftOver", spec := "fnExactDriftOver", apart := false }
def FnExactDriftOverSaid : Prop := fnExactDriftOverRow.holds Try.pinned (OpenSpec.ofChange fnExactDriftOverSpec)

/-- ITS FALSE NEIGHBOUR: 'it returns false'. Refute it at one input. -/
def fnExactDriftOverWrong : ChangeSpec := { name := "fnExactDriftOver", fn := fun _ => fun
  | [d1, d2, d3] => { results := [.lit (.bool false)], args := [d1, d2, d3] }
  | _ => none }
def FnExactDriftOverWrongFalsely : Prop := fnExactDriftOverRow.holds Try.pinned (OpenSpec.ofChange fnExactDriftOverWrong)

/-- 'laws.FnExactNormalWind': WHATEVER THE INPUT: true; the input reads as it did. -/
def fnExactNormalWindSpec : ChangeSpec := { name := "fnExactNormalWind", fn := fun _ => fun
  | [d] => { results := [.lit (.bool true)], args := [d] }
  | _ => none }
def fnExactNormalWindRow : OpenClaim := { program := "ytjemjffiomkioaa", sum := "36d80d93e1bb9a982f6ae99d9b65770f96f28490e51d2c7169726d1f7fb4bba2", func := "loop.example/g03017/laws.FnExactNormalWind", spec := "fnExactNormalWind", apart := false }
def FnExactNormalWindSaid : Prop := fnExactNormalWindRow.holds Try.pinned (OpenSpec.ofChange fnExactNormalWindSpec)

/-- ITS FALSE NEIGHBOUR: 'it returns false'. Refute it at one input. -/
def fnExactNormalWindWrong : ChangeSpec := { name := "fnExactNormalWind", fn := fun _ => fun
  | [d] => { results := [.lit (.bool false)], args := [d] }
  | _ => none }
def FnExactNormalWindWrongFalsely : Prop := fnExactNormalWindRow.holds Try.pinned (OpenSpec.ofChange fnExactNormalWindWrong)

/-- 'laws.FnExactLaterWind': WHATEVER THE INPUT: true; the input reads as it did. -/
def fnExactLaterWindSpec : ChangeSpec := { name := "fnExactLaterWind", fn := fun _ => fun
  | [d1, d2] => { results := [.lit (.bool true)], args := [d1, d2] }
  | _ => none }
def fnExactLaterWindRow : OpenClaim := { program := "ytjemjffiomkioaa", sum := "36d80d93e1bb9a982f6ae99d9b65770f96f28490e51d2c7169726d1f7fb4bba2", func := "loop.example/g03017/laws.FnExactLaterWind", spec := "fnExactLaterWind", apart := false }
def FnExactLaterWindSaid : Prop := fnExactLaterWindRow.holds Try.pinned (OpenSpec.ofChange fnExactLaterWindSpec)

/-- ITS FALSE NEIGHBOUR: 'it returns false'. Refute it at one input. -/
def fnExactLaterWindWrong : ChangeSpec := { name := "fnExactLaterWind", fn := fun _ => fun
  | [d1, d2] => { results := [.lit (.bool false)], args := [d1, d2] }
  | _ => none }
def FnExactLaterWindWrongFalsely : Prop := fnExactLaterWindRow.holds Try.pinned (OpenSpec.ofChange fnExactLaterWindWrong)

/-- 'laws.FnExactJoinWinds': WHATEVER THE INPUT: true; the input reads as it did. -/
def fnExactJoinWindsSpec : ChangeSpec := { name := "fnExactJoinWinds", fn := fun _ => fun
  | [d1, d2, d3] => { results := [.lit (.bool true)], args := [d1, d2, d3] }
  | _ => none }
def fnExactJoinWindsRow : OpenClaim := { program := "ytjemjffiomkioaa", sum := "36d80d93e1bb9a982f6ae99d9b65770f96f28490e51d2c7169726d1f7fb4bba2", func := "loop.example/g03017/laws.FnExactJoinWinds", spec := "fnExactJoinWinds", apart := false }
def FnExactJoinWindsSaid : Prop := fnExactJoinWindsRow.holds Try.pinned (OpenSpec.ofChange fnExactJoinWindsSpec)

/-- ITS FALSE NEIGHBOUR: 'it returns false'. Refute it at one input. -/
def fnExactJoinWindsWrong : ChangeSpec := { name := "fnExactJoinWinds", fn := fun _ => fun
  | [d1, d2, d3] => { results := [.lit (.bool false)], args := [d1, d2, d3] }
  | _ => none }
def FnExactJoinWindsWrongFalsely : Prop := fnExactJoinWindsRow.holds Try.pinned (OpenSpec.ofChange fnExactJoinWindsWrong)

/-- 'laws.FnExactTurnWind': WHATEVER THE INPUT: true; the input reads as it did. -/
def fnExactTurnWindSpec : ChangeSpec := { name := "fnExactTurnWind", fn := fun _ => fun
  | [d1, d2] => { results := [.lit (.bool true)], args := [d1, d2] }
  | _ => none }
def fnExactTurnWindRow : OpenClaim := { program := "ytjemjffiomkioaa", sum := "36d80d93e1bb9a982f6ae99d9b65770f96f28490e51d2c7169726d1f7fb4bba2", func := "loop.example/g03017/laws.FnExactTurnWind", spec := "fnExactTurnWind", apart := false }
def FnExactTurnWindSaid : Prop := fnExactTurnWindRow.holds Try.pinned (OpenSpec.ofChange fnExactTurnWindSpec)

/-- ITS FALSE NEIGHBOUR: 'it returns false'. Refute it at one input. -/
def fnExactTurnWindWrong : ChangeSpec := { name := "fnExactTurnWind", fn := fun _ => fun
  | [d1, d2] => { results := [.lit (.bool false)], args := [d1, d2] }
  | _ => none }
def FnExactTurnWindWrongFalsely : Prop := fnExactTurnWindRow.holds Try.pinned (OpenSpec.ofChange fnExactTurnWindWrong)

/-- 'laws.FnExactIsRose': WHATEVER THE INPUT: true; the input reads as it did. -/
def fnExactIsRoseSpec : ChangeSpec := { name := "fnExactIsRose", fn := fun _ => fun
  | [d] => { results := [.lit (.bool true)], args := [d] }
  | _ => none }
def fnExactIsRoseRow : OpenClaim := { program := "ytjemjffiomkioaa", sum := "36d80d93e1bb9a982f6ae99d9b65770f96f28490e51d2c7169726d1f7fb4bba2", func := "loop.example/g03017/laws.FnExactIsRose", spec := "fnExactIsRose", apart := false }
def FnExactIsRoseSaid : Prop := fnExactIsRoseRow.holds Try.pinned (OpenSpec.ofChange fnExactIsRoseSpec)

/-- ITS FALSE NEIGHBOUR: 'it returns false'. Refute it at one input. -/
def fnExactIsRoseWrong : ChangeSpec := { name := "fnExactIsRose", fn := fun _ => fun
  | [d] => { results := [.lit (.bool false)], args := [d] }
  | _ => none }
def FnExactIsRoseWrongFalsely : Prop := fnExactIsRoseRow.holds Try.pinned (OpenSpec.ofChange fnExactIsRoseWrong)

/-- 'laws.FnExactFitsRose': WHATEVER THE INPUT: true; the input reads as it did. -/
def fnExactFitsRoseSpec : ChangeSpec := { name := "fnExactFitsRose", fn := fun _ => fun
  | [d1, d2, d3] => { results := [.lit (.bool true)], args := [d1, d2, d3] }
  | _ => none }
def fnExactFitsRoseRow : OpenClaim := { program := "ytjemjffiomkioaa", sum := "36d80d93e1bb9a982f6ae99d9b65770f96f28490e51d2c7169726d1f7fb4bba2", func := "loop.example/g03017/laws.FnExactFitsRose", spec := "fnExactFitsRose", apart := false }
def FnExactFitsRoseSaid : Prop := fnExactFitsRoseRow.holds Try.pinned (OpenSpec.ofChange fnExactFitsRoseSpec)

/-- ITS FALSE NEIGHBOUR: 'it returns false'. Refute it at one input. -/
def fnExactFitsRoseWrong : ChangeSpec := { name := "fnExactFitsRose", fn := fun _ => fun
  | [d1, d2, d3] => { results := [.lit (.bool false)], args := [d1, d2, d3] }
  | _ => none }
def FnExactFitsRoseWrongFalsely : Prop := fnExactFitsRoseRow.holds Try.pinned (OpenSpec.ofChange fnExactFitsRoseWrong)

/-- 'laws.FnExactRoseBox': WHATEVER THE INPUT: true; the input reads as it did. -/
def fnExactRoseBoxSpec : ChangeSpec := { name := "fnExactRoseBox", fn := fun _ => fun
  | [d1, d2] => { results := [.lit (.bool true)], args := [d1, d2] }
  | _ => none }
def fnExactRoseBoxRow : OpenClaim := { program := "ytjemjffiomkioaa", sum := "36d80d93e1bb9a982f6ae99d9b65770f96f28490e51d2c7169726d1f7fb4bba2", func := "loop.example/g03017/laws.FnExactRoseBox", spec := "fnExactRoseBox", apart := false }
def FnExactRoseBoxSaid : Prop := fnExactRoseBoxRow.holds Try.pinned (OpenSpec.ofChange fnExactRoseBoxSpec)

/-- ITS FALSE NEIGHBOUR: 'it returns false'. Refute it at one input. -/
def fnExactRoseBoxWrong : ChangeSpec := { name := "fnExactRoseBox", fn := fun _ => fun
  | [d1, d2] => { results := [.lit (.bool false)], args := [d1, d2] }
  | _ => none }
def FnExactRoseBoxWrongFalsely : Prop := fnExactRoseBoxRow.holds Try.pinned (OpenSpec.ofChange fnExactRoseBoxWrong)

/-- 'laws.FnExactWorstDrift': WHATEVER THE INPUT: true; the input reads as it did. -/
def fnExactWorstDriftSpec : ChangeSpec := { name := "fnExactWorstDrift", fn := fun _ => fun
  | [d1, d2] => { results := [.lit (.bool true)], args := [d1, d2] }
  | _ => none }
def fnExactWorstDriftRow : OpenClaim := { program := "ytjemjffiomkioaa", sum := "36d80d93e1bb9a982f6ae99d9b65770f96f28490e51d2c7169726d1f7fb4bba2", func := "loop.example/g03017/laws.FnExactWorstDrift", spec := "fnExactWorstDrift", apart := false }
def FnExactWorstDriftSaid : Prop := fnExactWorstDriftRow.holds Try.pinned (OpenSpec.ofChange fnExactWorstDriftSpec)

/-- ITS FALSE NEIGHBOUR: 'it returns false'. Refute it at one input. -/
def fnExactWorstDriftWrong : ChangeSpec := { name := "fnExactWorstDrift", fn := fun _ => fun
  | [d1, d2] => { results := [.lit (.bool false)], args := [d1, d2] }
  | _ => none }
def FnExactWorstDriftWrongFalsely : Prop := fnExactWorstDriftRow.holds Try.pinned (OpenSpec.ofChange fnExactWorstDriftWrong)

/- THE SECOND FORM. 'bulk': how many values and letters a reading holds, each counted each time it is reached (what is shared counts as often as it is met; a slice's spare places count too). A statement '..UptoSaid' is the law's where the arguments, and the package variables that the reading takes, are together of bulk at most 1048576: NARROWER than '..Said'. Prove '..Said' where nothing that the law and all that it calls make is longer than what came in: it says more and counts as full. Else prove '..UptoSaid'. A law counts once. -/
mutual
def uptoBulk {H : Type} : DataW H → Nat
  | .lit (.string bytes) => bytes.length + 1
  | .lit _ => 1
  | .nil => 1
  | .ptr d => uptoBulk d + 1
  | .slice elems spare => uptoBulkAll elems + uptoBulkAll spare + 1
  | .agg parts => uptoBulkAll parts + 1
  | .iface _ d => uptoBulk d + 1
  | .map entries => uptoBulkEntries entries + 1
  | .held _ => 1
def uptoBulkAll {H : Type} : List (DataW H) → Nat
  | [] => 0
  | d :: r => uptoBulk d + uptoBulkAll r
def uptoBulkEntries {H : Type} : List (Lit × DataW H) → Nat
  | [] => 0
  | x :: r => uptoBulkEntry x + uptoBulkEntries r
def uptoBulkEntry {H : Type} : Lit × DataW H → Nat
  | (.string bytes, d) => bytes.length + uptoBulk d + 1
  | (_, d) => uptoBulk d + 1
 end
def uptoSmall : (H : Type) → List (DataW H) → Bool := fun _ ds => decide (uptoBulkAll ds ≤ 1048576)
def OpenSpec.upto (s : _root_.Go.ChangeSpec) : _root_.Go.OpenSpec := { _root_.Go.OpenSpec.ofChange s with cond := some uptoSmall }

/-- 'laws.FnExactIsWind', WHERE WHAT IT READS IS OF BULK AT MOST 1048576: true; the input reads as it did. -/
def fnExactIsWindUptoRow : OpenClaim := { program := "ytjemjffiomkioaa", sum := "36d80d93e1bb9a982f6ae99d9b65770f96f28490e51d2c7169726d1f7fb4bba2", func := "loop.example/g03017/laws.FnExactIsWind", spec := "fnExactIsWind", apart := false, narrowed := true }
def FnExactIsWindUptoSaid : Prop := fnExactIsWindUptoRow.holds Try.pinned (OpenSpec.upto fnExactIsWindSpec)

/-- 'laws.FnExactDriftAt', WHERE WHAT IT READS IS OF BULK AT MOST 1048576: true; the input reads as it did. -/
def fnExactDriftAtUptoRow : OpenClaim := { program := "ytjemjffiomkioaa", sum := "36d80d93e1bb9a982f6ae99d9b65770f96f28490e51d2c7169726d1f7fb4bba2", func := "loop.example/g03017/laws.FnExactDriftAt", spec := "fnExactDriftAt", apart := false, narrowed := true }
def FnExactDriftAtUptoSaid : Prop := fnExactDriftAtUptoRow.holds Try.pinned (OpenSpec.upto fnExactDriftAtSpec)

/-- 'laws.FnExactDriftOver', WHERE WHAT IT READS IS OF BULK AT MOST 1048576: true; the input reads as it did. -/
def fnExactDriftOverUptoRow : OpenClaim := { program := "ytjemjffiomkioaa", sum := "36d80d93e1bb9a982f6ae99d9b65770f96f28490e51d2c7169726d1f7fb4bba2", func := "loop.example/g03017/laws.FnExactDriftOver", spec := "fnExactDriftOver", apart := false, narrowed := true }
def FnExactDriftOverUptoSaid : Prop := fnExactDriftOverUptoRow.holds Try.pinned (OpenSpec.upto fnExactDriftOverSpec)

/-- 'laws.FnExactNormalWind', WHERE WHAT IT READS IS OF BULK AT MOST 1048576: true; the input reads as it did. -/
def fnExactNormalWindUptoRow : OpenClaim := { program := "ytjemjffiomkioaa", sum := "36d80d93e1bb9a982f6ae99d9b65770f96f28490e51d2c7169726d1f7fb4bba2", func := "loop.example/g03017/laws.FnExactNormalWind", spec := "fnExactNormalWind", apart := false, narrowed := true }
def FnExactNormalWindUptoSaid : Prop := fnExactNormalWindUptoRow.holds Try.pinned (OpenSpec.upto fnExactNormalWindSpec)

/-- 'laws.FnExactLaterWind', WHERE WHAT IT READS IS OF BULK AT MOST 1048576: true; the input reads as it did. -/
def fnExactLaterWindUptoRow : OpenClaim := { program := "ytjemjffiomkioaa", sum := "36d80d93e1bb9a982f6ae99d9b65770f96f28490e51d2c7169726d1f7fb4bba2", func := "loop.example/g03017/laws.FnExactLaterWind", spec := "fnExactLaterWind", apart := false, narrowed := true }
def FnExactLaterWindUptoSaid : Prop := fnExactLaterWindUptoRow.holds Try.pinned (OpenSpec.upto fnExactLaterWindSpec)

/-- 'laws.FnExactJoinWinds', WHERE WHAT IT READS IS OF BULK AT MOST 1048576: true; the input reads as it did. -/
def fnExactJoinWindsUptoRow : OpenClaim := { program := "ytjemjffiomkioaa", sum := "36d80d93e1bb9a982f6ae99d9b65770f96f28490e51d2c7169726d1f7fb4bba2", func := "loop.example/g03017/laws.FnExactJoinWinds", spec := "fnExactJoinWinds", apart := false, narrowed := true }
def FnExactJoinWindsUptoSaid : Prop := fnExactJoinWindsUptoRow.holds Try.pinned (OpenSpec.upto fnExactJoinWindsSpec)

/-- 'laws.FnExactTurnWind', WHERE WHAT IT READS IS OF BULK AT MOST 1048576: true; the input reads as it did. -/
def fnExactTurnWindUptoRow : OpenClaim := { program := "ytjemjffiomkioaa", sum := "36d80d93e1bb9a982f6ae99d9b65770f96f28490e51d2c7169726d1f7fb4bba2", func := "loop.example/g03017/laws.FnExactTurnWind", spec := "fnExactTurnWind", apart := false, narrowed := true }
def FnExactTurnWindUptoSaid : Prop := fnExactTurnWindUptoRow.holds Try.pinned (OpenSpec.upto fnExactTurnWindSpec)

/-- 'laws.FnExactIsRose', WHERE WHAT IT READS IS OF BULK AT MOST 1048576: true; the input reads as it did. -/
def fnExactIsRoseUptoRow : OpenClaim := { program := "ytjemjffiomkioaa", sum := "36d80d93e1bb9a982f6ae99d9b65770f96f28490e51d2c7169726d1f7fb4bba2", func := "loop.example/g03017/laws.FnExactIsRose", spec := "fnExactIsRose", apart := false, narrowed := true }
def FnExactIsRoseUptoSaid : Prop := fnExactIsRoseUptoRow.holds Try.pinned (OpenSpec.upto fnExactIsRoseSpec)

/-- 'laws.FnExactFitsRose', WHERE WHAT IT READS IS OF BULK AT MOST 1048576: true; the input reads as it did. -/
def fnExactFitsRoseUptoRow : OpenClaim := { program := "ytjemjffiomkioaa", sum := "36d80d93e1bb9a982f6ae99d9b65770f96f28490e51d2c7169726d1f7fb4bba2", func := "loop.example/g03017/laws.FnExactFitsRose", spec := "fnExactFitsRose", apart := false, narrowed := true }
def FnExactFitsRoseUptoSaid : Prop := fnExactFitsRoseUptoRow.holds Try.pinned (OpenSpec.upto fnExactFitsRoseSpec)

/-- 'laws.FnExactRoseBox', WHERE WHAT IT READS IS OF BULK AT MOST 1048576: true; the input reads as it did. -/
def fnExactRoseBoxUptoRow : OpenClaim := { program := "ytjemjffiomkioaa", sum := "36d80d93e1bb9a982f6ae99d9b65770f96f28490e51d2c7169726d1f7fb4bba2", func := "loop.example/g03017/laws.FnExactRoseBox", spec := "fnExactRoseBox", apart := false, narrowed := true }
def FnExactRoseBoxUptoSaid : Prop := fnExactRoseBoxUptoRow.holds Try.pinned (OpenSpec.upto fnExactRoseBoxSpec)

/-- 'laws.FnExactWorstDrift', WHERE WHAT IT READS IS OF BULK AT MOST 1048576: true; the input reads as it did. -/
def fnExactWorstDriftUptoRow : OpenClaim := { program := "ytjemjffiomkioaa", sum := "36d80d93e1bb9a982f6ae99d9b65770f96f28490e51d2c7169726d1f7fb4bba2", func := "loop.example/g03017/laws.FnExactWorstDrift", spec := "fnExactWorstDrift", apart := false, narrowed := true }
def FnExactWorstDriftUptoSaid : Prop := fnExactWorstDriftUptoRow.holds Try.pinned (OpenSpec.upto fnExactWorstDriftSpec)

end Rows
end Go.Proofs.Ytjemjffiomkioaa
