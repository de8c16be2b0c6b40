/-
  No cell of these rows narrows 'for every input' (looked for: loops, veiled, ifaces, maps, wideKeys, modest, calm, conditions, laid).
  DERIVED. THE GIVEN ROWS OF THIS SEAT. 6 by the template 'for every input the law returns true; each argument reads behind the call as it read before'; 0 by the template 'total and deterministic' (their statements: YtkndejjfndjcoabGreatTotals.lean).
  GIVEN WITH THE SEED: the statements are not yours to turn. If you find one false, say at which input.
  Laid BY PROGRAM, IN A SANDBOX (cutbox-rows.mjs): the forced cells as the released guide's own fill.sh prints them over the translation 711ed36bd661e793… (all of the seat's roots in one cut). By AI agents, Wed Nov 11 2026. No macro, syntax, notation, axiom, sorry.
-/
import Derived.Test.YtkndejjfndjcoabGreatChecked
import GoSem.Claim
import GoSem.ClaimJoined
import GoSem.ClaimMapViews
import Derived.JoinedTies
import Derived.KernelRfl
namespace Go.Proofs.YtkndejjfndjcoabGreat
/- THE CELL 'sum', in the pinned program and in every row, IS THE sha256 OF THE DUMP (.gsa) THAT YtkndejjfndjcoabGreatProg.lean LOADS. Nothing in Lean hashes anything: it is a label: what it is worth is what the hold of that sum in a sandbox is worth. -/
noncomputable def Tryz.pinned : Pinned := { name := "ytkndejjfndjcoabgreat", sum := "711ed36bd661e79300aef760f45658371bb49b4f77e9410b199d91fd9b4634bc", checked := Tryz.checked }
namespace Rows
def none {H : Type} : Left H := { results := [], args := [] }

/-- 'laws.FnExactThrownBy': WHATEVER THE INPUT: true; the input reads as it did. -/
def fnExactThrownBySpec : ChangeSpec := { name := "fnExactThrownBy", fn := fun _ => fun
  | [d1, d2] => { results := [.lit (.bool true)], args := [d1, d2] }
  | _ => none }
def fnExactThrownByRow : OpenClaim := { program := "ytkndejjfndjcoabgreat", sum := "711ed36bd661e79300aef760f45658371bb49b4f77e9410b199d91fd9b4634bc", func := "loop.example/g03017/laws.FnExactThrownBy", spec := "fnExactThrownBy", inPlace := ["math.archFloor", "math.Float64bits", "math.Float64frombits", "math.archTrunc"], unfollowed := true, recurses := true, apart := false }
def FnExactThrownBySaid : Prop := fnExactThrownByRow.holds Tryz.pinned (OpenSpec.ofChange fnExactThrownBySpec)

/-- ITS FALSE NEIGHBOUR: 'it returns false'. Refute it at one input. -/
def fnExactThrownByWrong : ChangeSpec := { name := "fnExactThrownBy", fn := fun _ => fun
  | [d1, d2] => { results := [.lit (.bool false)], args := [d1, d2] }
  | _ => none }
def FnExactThrownByWrongFalsely : Prop := fnExactThrownByRow.holds Tryz.pinned (OpenSpec.ofChange fnExactThrownByWrong)

/-- 'laws.FnExactLandedBy': WHATEVER THE INPUT: true; the input reads as it did. -/
def fnExactLandedBySpec : ChangeSpec := { name := "fnExactLandedBy", fn := fun _ => fun
  | [d1, d2] => { results := [.lit (.bool true)], args := [d1, d2] }
  | _ => none }
def fnExactLandedByRow : OpenClaim := { program := "ytkndejjfndjcoabgreat", sum := "711ed36bd661e79300aef760f45658371bb49b4f77e9410b199d91fd9b4634bc", func := "loop.example/g03017/laws.FnExactLandedBy", spec := "fnExactLandedBy", inPlace := ["math.archFloor", "math.Float64bits", "math.Float64frombits", "math.archTrunc"], unfollowed := true, recurses := true, apart := false }
def FnExactLandedBySaid : Prop := fnExactLandedByRow.holds Tryz.pinned (OpenSpec.ofChange fnExactLandedBySpec)

/-- ITS FALSE NEIGHBOUR: 'it returns false'. Refute it at one input. -/
def fnExactLandedByWrong : ChangeSpec := { name := "fnExactLandedBy", fn := fun _ => fun
  | [d1, d2] => { results := [.lit (.bool false)], args := [d1, d2] }
  | _ => none }
def FnExactLandedByWrongFalsely : Prop := fnExactLandedByRow.holds Tryz.pinned (OpenSpec.ofChange fnExactLandedByWrong)

/-- 'laws.FnExactHighestOf': WHATEVER THE INPUT: true; the input reads as it did. -/
def fnExactHighestOfSpec : ChangeSpec := { name := "fnExactHighestOf", fn := fun _ => fun
  | [d] => { results := [.lit (.bool true)], args := [d] }
  | _ => none }
def fnExactHighestOfRow : OpenClaim := { program := "ytkndejjfndjcoabgreat", sum := "711ed36bd661e79300aef760f45658371bb49b4f77e9410b199d91fd9b4634bc", func := "loop.example/g03017/laws.FnExactHighestOf", spec := "fnExactHighestOf", inPlace := ["math.archFloor", "math.Float64bits", "math.Float64frombits", "math.archTrunc"], unfollowed := true, recurses := true, apart := false }
def FnExactHighestOfSaid : Prop := fnExactHighestOfRow.holds Tryz.pinned (OpenSpec.ofChange fnExactHighestOfSpec)

/-- ITS FALSE NEIGHBOUR: 'it returns false'. Refute it at one input. -/
def fnExactHighestOfWrong : ChangeSpec := { name := "fnExactHighestOf", fn := fun _ => fun
  | [d] => { results := [.lit (.bool false)], args := [d] }
  | _ => none }
def FnExactHighestOfWrongFalsely : Prop := fnExactHighestOfRow.holds Tryz.pinned (OpenSpec.ofChange fnExactHighestOfWrong)

/-- 'laws.FnExactWaterOf': WHATEVER THE INPUT: true; the input reads as it did. -/
def fnExactWaterOfSpec : ChangeSpec := { name := "fnExactWaterOf", fn := fun _ => fun
  | [d] => { results := [.lit (.bool true)], args := [d] }
  | _ => none }
def fnExactWaterOfRow : OpenClaim := { program := "ytkndejjfndjcoabgreat", sum := "711ed36bd661e79300aef760f45658371bb49b4f77e9410b199d91fd9b4634bc", func := "loop.example/g03017/laws.FnExactWaterOf", spec := "fnExactWaterOf", inPlace := ["math.archFloor", "math.Float64bits", "math.Float64frombits", "math.archTrunc"], unfollowed := true, recurses := true, apart := false }
def FnExactWaterOfSaid : Prop := fnExactWaterOfRow.holds Tryz.pinned (OpenSpec.ofChange fnExactWaterOfSpec)

/-- ITS FALSE NEIGHBOUR: 'it returns false'. Refute it at one input. -/
def fnExactWaterOfWrong : ChangeSpec := { name := "fnExactWaterOf", fn := fun _ => fun
  | [d] => { results := [.lit (.bool false)], args := [d] }
  | _ => none }
def FnExactWaterOfWrongFalsely : Prop := fnExactWaterOfRow.holds Tryz.pinned (OpenSpec.ofChange fnExactWaterOfWrong)

/-- 'laws.FnExactDropsAt': WHATEVER THE INPUT: true; the input reads as it did. -/
def fnExactDropsAtSpec : ChangeSpec := { name := "fnExactDropsAt", fn := fun _ => fun
  | [d1, d2] => { results := [.lit (.bool true)], args := [d1, d2] }
  | _ => none }
def fnExactDropsAtRow : OpenClaim := { program := "ytkndejjfndjcoabgreat", sum := "711ed36bd661e79300aef760f45658371bb49b4f77e9410b199d91fd9b4634bc", func := "loop.example/g03017/laws.FnExactDropsAt", spec := "fnExactDropsAt", inPlace := ["math.archFloor", "math.Float64bits", "math.Float64frombits", "math.archTrunc"], unfollowed := true, recurses := true, apart := false }
def FnExactDropsAtSaid : Prop := fnExactDropsAtRow.holds Tryz.pinned (OpenSpec.ofChange fnExactDropsAtSpec)

/-- ITS FALSE NEIGHBOUR: 'it returns false'. Refute it at one input. -/
def fnExactDropsAtWrong : ChangeSpec := { name := "fnExactDropsAt", fn := fun _ => fun
  | [d1, d2] => { results := [.lit (.bool false)], args := [d1, d2] }
  | _ => none }
def FnExactDropsAtWrongFalsely : Prop := fnExactDropsAtRow.holds Tryz.pinned (OpenSpec.ofChange fnExactDropsAtWrong)

/-- 'laws.FnExactLandingsOf': WHATEVER THE INPUT: true; the input reads as it did. -/
def fnExactLandingsOfSpec : ChangeSpec := { name := "fnExactLandingsOf", fn := fun _ => fun
  | [d] => { results := [.lit (.bool true)], args := [d] }
  | _ => none }
def fnExactLandingsOfRow : OpenClaim := { program := "ytkndejjfndjcoabgreat", sum := "711ed36bd661e79300aef760f45658371bb49b4f77e9410b199d91fd9b4634bc", func := "loop.example/g03017/laws.FnExactLandingsOf", spec := "fnExactLandingsOf", inPlace := ["math.archFloor", "math.Float64bits", "math.Float64frombits", "math.archTrunc"], unfollowed := true, recurses := true, apart := false }
def FnExactLandingsOfSaid : Prop := fnExactLandingsOfRow.holds Tryz.pinned (OpenSpec.ofChange fnExactLandingsOfSpec)

/-- ITS FALSE NEIGHBOUR: 'it returns false'. Refute it at one input. -/
def fnExactLandingsOfWrong : ChangeSpec := { name := "fnExactLandingsOf", fn := fun _ => fun
  | [d] => { results := [.lit (.bool false)], args := [d] }
  | _ => none }
def FnExactLandingsOfWrongFalsely : Prop := fnExactLandingsOfRow.holds Tryz.pinned (OpenSpec.ofChange fnExactLandingsOfWrong)

/- THE SECOND FORM. 'bulk': how many values and letters a reading holds, each counted each time it is reached (what is shared counts as often as it is met; a slice's spare places count too). A statement '..UptoSaid' is the law's where the arguments, and the package variables that the reading takes, are together of bulk at most 1048576: NARROWER than '..Said'. Prove '..Said' where nothing that the law and all that it calls make is longer than what came in: it says more and counts as full. Else prove '..UptoSaid'. A law counts once. -/
mutual
def uptoBulk {H : Type} : DataW H → Nat
  | .lit (.string bytes) => bytes.length + 1
  | .lit _ => 1
  | .nil => 1
  | .ptr d => uptoBulk d + 1
  | .slice elems spare => uptoBulkAll elems + uptoBulkAll spare + 1
  | .agg parts => uptoBulkAll parts + 1
  | .iface _ d => uptoBulk d + 1
  | .map entries => uptoBulkEntries entries + 1
  | .held _ => 1
def uptoBulkAll {H : Type} : List (DataW H) → Nat
  | [] => 0
  | d :: r => uptoBulk d + uptoBulkAll r
def uptoBulkEntries {H : Type} : List (Lit × DataW H) → Nat
  | [] => 0
  | x :: r => uptoBulkEntry x + uptoBulkEntries r
def uptoBulkEntry {H : Type} : Lit × DataW H → Nat
  | (.string bytes, d) => bytes.length + uptoBulk d + 1
  | (_, d) => uptoBulk d + 1
 end
def uptoSmall : (H : Type) → List (DataW H) → Bool := fun _ ds => decide (uptoBulkAll ds ≤ 1048576)
def OpenSpec.upto (s : _root_.Go.ChangeSpec) : _root_.Go.OpenSpec := { _root_.Go.OpenSpec.ofChange s with cond := some uptoSmall }

/-- 'laws.FnExactThrownBy', WHERE WHAT IT READS IS OF BULK AT MOST 1048576: true; the input reads as it did. -/
def fnExactThrownByUptoRow : OpenClaim := { program := "ytkndejjfndjcoabgreat", sum := "711ed36bd661e79300aef760f45658371bb49b4f77e9410b199d91fd9b4634bc", func := "loop.example/g03017/laws.FnExactThrownBy", spec := "fnExactThrownBy", inPlace := ["math.archFloor", "math.Float64bits", "math.Float64frombits", "math.archTrunc"], unfollowed := true, recurses := true, apart := false, narrowed := true }
def FnExactThrownByUptoSaid : Prop := fnExactThrownByUptoRow.holds Tryz.pinned (OpenSpec.upto fnExactThrownBySpec)

/-- 'laws.FnExactLandedBy', WHERE WHAT IT READS IS OF BULK AT MOST 1048576: true; the input reads as it did. -/
def fnExactLandedByUptoRow : OpenClaim := { program := "ytkndejjfndjcoabgreat", sum := "711ed36bd661e79300aef760f45658371bb49b4f77e9410b199d91fd9b4634bc", func := "loop.example/g03017/laws.FnExactLandedBy", spec := "fnExactLandedBy", inPlace := ["math.archFloor", "math.Float64bits", "math.Float64frombits", "math.archTrunc"], unfollowed := true, recurses := true, apart := false, narrowed := true }
def FnExactLandedByUptoSaid : Prop := fnExactLandedByUptoRow.holds Tryz.pinned (OpenSpec.upto fnExactLandedBySpec)

/-- 'laws.FnExactHighestOf', WHERE WHAT IT READS IS OF BULK AT MOST 1048576: true; the input reads as it did. -/
def fnExactHighestOfUptoRow : OpenClaim := { program := "ytkndejjfndjcoabgreat", sum := "711ed36bd661e79300aef760f45658371bb49b4f77e9410b199d91fd9b4634bc", func := "loop.example/g03017/laws.FnExactHighestOf", spec := "fnExactHighestOf", inPlace := ["math.archFloor", "math.Float64bits", "math.Float64frombits", "math.archTrunc"], unfollowed := true, recurses := true, apart := false, narrowed := true }
def FnExactHighestOfUptoSaid : Prop := fnExactHighestOfUptoRow.holds Tryz.pinned (OpenSpec.upto fnExactHighestOfSpec)

/-- 'laws.FnExactWaterOf', WHERE WHAT IT READS IS OF BULK AT MOST 1048576: true; the input reads as it did. -/
def fnExactWaterOfUptoRow : OpenClaim := { program := "ytkndejjfndjcoabgreat", sum := "711ed36bd661e79300aef760f45658371bb49b4f77e9410b199d91fd9b4634bc", func := "loop.example/g03017/laws.FnExactWaterOf", spec := "fnExactWaterOf", inPlace := ["math.archFloor", "math.Float64bits", "math.Float64frombits", "math.archTrunc"], unfollowed := true, recurses := true, apart := false, narrowed := true }
def FnExactWaterOfUptoSaid : Prop := fnExactWaterOfUptoRow.holds Tryz.pinned (OpenSpec.upto fnExactWaterOfSpec)

/-- 'laws.FnExactDropsAt', WHERE WHAT IT READS IS OF BULK AT MOST 1048576: true; the input reads as it did. -/
def fnExactDropsAtUptoRow : OpenClaim := { program := "ytkndejjfndjcoabgreat", sum := "711ed36bd661e79300aef760f45658371bb49b4f77e9410b199d91fd9b4634bc", func := "loop.example/g03017/laws.FnExactDropsAt", spec := "fnExactDropsAt", inPlace := ["math.archFloor", "math.Float64bits", "math.Float64frombits", "math.archTrunc"], unfollowed := true, recurses := true, apart := false, narrowed := true }
def FnExactDropsAtUptoSaid : Prop := fnExactDropsAtUptoRow.holds Tryz.pinned (OpenSpec.upto fnExactDropsAtSpec)

/-- 'laws.FnExactLandingsOf', WHERE WHAT IT READS IS OF BULK AT MOST 1048576: true; the input reads as it did. -/
def fnExactLandingsOfUptoRow : OpenClaim := { program := "ytkndejjfndjcoabgreat", sum := "711ed36bd661e79300aef760f45658371bb49b4f77e9410b199d91fd9b4634bc", func := "loop.example/g03017/laws.FnExactLandingsOf", spec := "fnExactLandingsOf", inPlace := ["math.archFloor", "math.Float64bits", "math.Float64frombits", "math.archTrunc"], unfollowed := true, recurses := true, apart := false, narrowed := true }
def FnExactLandingsOfUptoSaid : Prop := fnExactLandingsOfUptoRow.holds Tryz.pinned (OpenSpec.upto fnExactLandingsOfSpec)

end Rows
end Go.Proofs.YtkndejjfndjcoabGreat
