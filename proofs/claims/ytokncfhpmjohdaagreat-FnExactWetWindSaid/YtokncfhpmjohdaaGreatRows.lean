/-
  No cell of these rows narrows 'for every input' (looked for: loops, veiled, ifaces, maps, wideKeys, modest, calm, conditions, laid).
  DERIVED. THE GIVEN ROWS OF THIS SEAT. 4 by the template 'for every input the law returns true; each argument reads behind the call as it read before'; 0 by the template 'total and deterministic' (their statements: YtokncfhpmjohdaaGreatTotals.lean).
  GIVEN WITH THE SEED: the statements are not yours to turn. If you find one false, say at which input.
  Laid BY PROGRAM, IN A SANDBOX (cutbox-rows.mjs): the forced cells as the released guide's own fill.sh prints them over the translation 23dc473d695b5357… (all of the seat's roots in one cut). By AI agents, Wed Nov 11 2026. No macro, syntax, notation, axiom, sorry.
-/
import Derived.Test.YtokncfhpmjohdaaGreatChecked
import GoSem.Claim
import GoSem.ClaimJoined
import GoSem.ClaimMapViews
import Derived.JoinedTies
import Derived.KernelRfl
namespace Go.Proofs.YtokncfhpmjohdaaGreat
/- THE CELL 'sum', in the pinned program and in every row, IS THE sha256 OF THE DUMP (.gsa) THAT YtokncfhpmjohdaaGreatProg.lean LOADS. Nothing in Lean hashes anything: it is a label: what it is worth is what the hold of that sum in a sandbox is worth. -/
noncomputable def Tryz.pinned : Pinned := { name := "ytokncfhpmjohdaagreat", sum := "23dc473d695b5357144c83484cc2a5656714a2d3d7522b97f81daf1c3bc45fcb", checked := Tryz.checked }
namespace Rows
def none {H : Type} : Left H := { results := [], args := [] }

/-- 'laws.FnExactWetWind': WHATEVER THE INPUT: true; the input reads as it did. -/
def fnExactWetWindSpec : ChangeSpec := { name := "fnExactWetWind", fn := fun _ => fun
  | [d1, d2, d3] => { results := [.lit (.bool true)], args := [d1, d2, d3] }
  | _ => none }
def fnExactWetWindRow : OpenClaim := { program := "ytokncfhpmjohdaagreat", sum := "23dc473d695b5357144c83484cc2a5656714a2d3d7522b97f81daf1c3bc45fcb", func := "loop.example/g03017/laws.FnExactWetWind", spec := "fnExactWetWind", inPlace := ["math.archFloor", "math.Float64bits", "math.Float64frombits", "math.archTrunc"], unfollowed := true, recurses := true, apart := false }
def FnExactWetWindSaid : Prop := fnExactWetWindRow.holds Tryz.pinned (OpenSpec.ofChange fnExactWetWindSpec)

/-- ITS FALSE NEIGHBOUR: 'it returns false'. Refute it at one input. -/
def fnExactWetWindWrong : ChangeSpec := { name := "fnExactWetWind", fn := fun _ => fun
  | [d1, d2, d3] => { results := [.lit (.bool false)], args := [d1, d2, d3] }
  | _ => none }
def FnExactWetWindWrongFalsely : Prop := fnExactWetWindRow.holds Tryz.pinned (OpenSpec.ofChange fnExactWetWindWrong)

/-- 'laws.FnExactLimitShow': WHATEVER THE INPUT: true; the input reads as it did. -/
def fnExactLimitShowSpec : ChangeSpec := { name := "fnExactLimitShow", fn := fun _ => fun
  | [d1, d2, d3] => { results := [.lit (.bool true)], args := [d1, d2, d3] }
  | _ => none }
def fnExactLimitShowRow : OpenClaim := { program := "ytokncfhpmjohdaagreat", sum := "23dc473d695b5357144c83484cc2a5656714a2d3d7522b97f81daf1c3bc45fcb", func := "loop.example/g03017/laws.FnExactLimitShow", spec := "fnExactLimitShow", unfollowed := true, recurses := true, apart := false }
def FnExactLimitShowSaid : Prop := fnExactLimitShowRow.holds Tryz.pinned (OpenSpec.ofChange fnExactLimitShowSpec)

/-- ITS FALSE NEIGHBOUR: 'it returns false'. Refute it at one input. -/
def fnExactLimitShowWrong : ChangeSpec := { name := "fnExactLimitShow", fn := fun _ => fun
  | [d1, d2, d3] => { results := [.lit (.bool false)], args := [d1, d2, d3] }
  | _ => none }
def FnExactLimitShowWrongFalsely : Prop := fnExactLimitShowRow.holds Tryz.pinned (OpenSpec.ofChange fnExactLimitShowWrong)

/-- 'laws.FnExactLeastBasin': WHATEVER THE INPUT: true; the input reads as it did. -/
def fnExactLeastBasinSpec : ChangeSpec := { name := "fnExactLeastBasin", fn := fun _ => fun
  | [d1, d2] => { results := [.lit (.bool true)], args := [d1, d2] }
  | _ => none }
def fnExactLeastBasinRow : OpenClaim := { program := "ytokncfhpmjohdaagreat", sum := "23dc473d695b5357144c83484cc2a5656714a2d3d7522b97f81daf1c3bc45fcb", func := "loop.example/g03017/laws.FnExactLeastBasin", spec := "fnExactLeastBasin", inPlace := ["math.archFloor", "math.Float64bits", "math.Float64frombits", "math.archTrunc"], unfollowed := true, recurses := true, apart := false }
def FnExactLeastBasinSaid : Prop := fnExactLeastBasinRow.holds Tryz.pinned (OpenSpec.ofChange fnExactLeastBasinSpec)

/-- ITS FALSE NEIGHBOUR: 'it returns false'. Refute it at one input. -/
def fnExactLeastBasinWrong : ChangeSpec := { name := "fnExactLeastBasin", fn := fun _ => fun
  | [d1, d2] => { results := [.lit (.bool false)], args := [d1, d2] }
  | _ => none }
def FnExactLeastBasinWrongFalsely : Prop := fnExactLeastBasinRow.holds Tryz.pinned (OpenSpec.ofChange fnExactLeastBasinWrong)

/-- 'laws.FnExactIsSafe': WHATEVER THE INPUT: true; the input reads as it did. -/
def fnExactIsSafeSpec : ChangeSpec := { name := "fnExactIsSafe", fn := fun _ => fun
  | [d1, d2, d3] => { results := [.lit (.bool true)], args := [d1, d2, d3] }
  | _ => none }
def fnExactIsSafeRow : OpenClaim := { program := "ytokncfhpmjohdaagreat", sum := "23dc473d695b5357144c83484cc2a5656714a2d3d7522b97f81daf1c3bc45fcb", func := "loop.example/g03017/laws.FnExactIsSafe", spec := "fnExactIsSafe", inPlace := ["math.archFloor", "math.Float64bits", "math.Float64frombits", "math.archTrunc"], unfollowed := true, recurses := true, apart := false }
def FnExactIsSafeSaid : Prop := fnExactIsSafeRow.holds Tryz.pinned (OpenSpec.ofChange fnExactIsSafeSpec)

/-- ITS FALSE NEIGHBOUR: 'it returns false'. Refute it at one input. -/
def fnExactIsSafeWrong : ChangeSpec := { name := "fnExactIsSafe", fn := fun _ => fun
  | [d1, d2, d3] => { results := [.lit (.bool false)], args := [d1, d2, d3] }
  | _ => none }
def FnExactIsSafeWrongFalsely : Prop := fnExactIsSafeRow.holds Tryz.pinned (OpenSpec.ofChange fnExactIsSafeWrong)

/- THE SECOND FORM. 'bulk': how many values and letters a reading holds, each counted each time it is reached (what is shared counts as often as it is met; a slice's spare places count too). A statement '..UptoSaid' is the law's where the arguments, and the package variables that the reading takes, are together of bulk at most 1048576: NARROWER than '..Said'. Prove '..Said' where nothing that the law and all that it calls make is longer than what came in: it says more and counts as full. Else prove '..UptoSaid'. A law counts once. -/
mutual
def uptoBulk {H : Type} : DataW H → Nat
  | .lit (.string bytes) => bytes.length + 1
  | .lit _ => 1
  | .nil => 1
  | .ptr d => uptoBulk d + 1
  | .slice elems spare => uptoBulkAll elems + uptoBulkAll spare + 1
  | .agg parts => uptoBulkAll parts + 1
  | .iface _ d => uptoBulk d + 1
  | .map entries => uptoBulkEntries entries + 1
  | .held _ => 1
def uptoBulkAll {H : Type} : List (DataW H) → Nat
  | [] => 0
  | d :: r => uptoBulk d + uptoBulkAll r
def uptoBulkEntries {H : Type} : List (Lit × DataW H) → Nat
  | [] => 0
  | x :: r => uptoBulkEntry x + uptoBulkEntries r
def uptoBulkEntry {H : Type} : Lit × DataW H → Nat
  | (.string bytes, d) => bytes.length + uptoBulk d + 1
  | (_, d) => uptoBulk d + 1
 end
def uptoSmall : (H : Type) → List (DataW H) → Bool := fun _ ds => decide (uptoBulkAll ds ≤ 1048576)
def OpenSpec.upto (s : _root_.Go.ChangeSpec) : _root_.Go.OpenSpec := { _root_.Go.OpenSpec.ofChange s with cond := some uptoSmall }

/-- 'laws.FnExactWetWind', WHERE WHAT IT READS IS OF BULK AT MOST 1048576: true; the input reads as it did. -/
def fnExactWetWindUptoRow : OpenClaim := { program := "ytokncfhpmjohdaagreat", sum := "23dc473d695b5357144c83484cc2a5656714a2d3d7522b97f81daf1c3bc45fcb", func := "loop.example/g03017/laws.FnExactWetWind", spec := "fnExactWetWind", inPlace := ["math.archFloor", "math.Float64bits", "math.Float64frombits", "math.archTrunc"], unfollowed := true, recurses := true, apart := false, narrowed := true }
def FnExactWetWindUptoSaid : Prop := fnExactWetWindUptoRow.holds Tryz.pinned (OpenSpec.upto fnExactWetWindSpec)

/-- 'laws.FnExactLimitShow', WHERE WHAT IT READS IS OF BULK AT MOST 1048576: true; the input reads as it did. -/
def fnExactLimitShowUptoRow : OpenClaim := { program := "ytokncfhpmjohdaagreat", sum := "23dc473d695b5357144c83484cc2a5656714a2d3d7522b97f81daf1c3bc45fcb", func := "loop.example/g03017/laws.FnExactLimitShow", spec := "fnExactLimitShow", unfollowed := true, recurses := true, apart := false, narrowed := true }
def FnExactLimitShowUptoSaid : Prop := fnExactLimitShowUptoRow.holds Tryz.pinned (OpenSpec.upto fnExactLimitShowSpec)

/-- 'laws.FnExactLeastBasin', WHERE WHAT IT READS IS OF BULK AT MOST 1048576: true; the input reads as it did. -/
def fnExactLeastBasinUptoRow : OpenClaim := { program := "ytokncfhpmjohdaagreat", sum := "23dc473d695b5357144c83484cc2a5656714a2d3d7522b97f81daf1c3bc45fcb", func := "loop.example/g03017/laws.FnExactLeastBasin", spec := "fnExactLeastBasin", inPlace := ["math.archFloor", "math.Float64bits", "math.Float64frombits", "math.archTrunc"], unfollowed := true, recurses := true, apart := false, narrowed := true }
def FnExactLeastBasinUptoSaid : Prop := fnExactLeastBasinUptoRow.holds Tryz.pinned (OpenSpec.upto fnExactLeastBasinSpec)

/-- 'laws.FnExactIsSafe', WHERE WHAT IT READS IS OF BULK AT MOST 1048576: true; the input reads as it did. -/
def fnExactIsSafeUptoRow : OpenClaim := { program := "ytokncfhpmjohdaagreat", sum := "23dc473d695b5357144c83484cc2a5656714a2d3d7522b97f81daf1c3bc45fcb", func := "loop.example/g03017/laws.FnExactIsSafe", spec := "fnExactIsSafe", inPlace := ["math.archFloor", "math.Float64bits", "math.Float64frombits", "math.archTrunc"], unfollowed := true, recurses := true, apart := false, narrowed := true }
def FnExactIsSafeUptoSaid : Prop := fnExactIsSafeUptoRow.holds Tryz.pinned (OpenSpec.upto fnExactIsSafeSpec)

end Rows
end Go.Proofs.YtokncfhpmjohdaaGreat
