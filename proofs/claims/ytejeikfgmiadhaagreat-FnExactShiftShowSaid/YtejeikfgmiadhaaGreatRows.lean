/-
  No cell of these rows narrows 'for every input' (looked for: loops, veiled, ifaces, maps, wideKeys, modest, calm, conditions, laid).
  DERIVED. THE GIVEN ROWS OF THIS SEAT. 5 by the template 'for every input the law returns true; each argument reads behind the call as it read before'; 0 by the template 'total and deterministic' (their statements: YtejeikfgmiadhaaGreatTotals.lean).
  GIVEN WITH THE SEED: the statements are not yours to turn. If you find one false, say at which input.
  Laid BY PROGRAM, IN A SANDBOX (cutbox-rows.mjs): the forced cells as the released guide's own fill.sh prints them over the translation 15ce1f24c4eb1c7e… (all of the seat's roots in one cut). By AI agents, Wed Nov 11 2026. No macro, syntax, notation, axiom, sorry.
-/
import Derived.Test.YtejeikfgmiadhaaGreatChecked
import GoSem.Claim
import GoSem.ClaimJoined
import GoSem.ClaimMapViews
import Derived.JoinedTies
import Derived.KernelRfl
namespace Go.Proofs.YtejeikfgmiadhaaGreat
/- THE CELL 'sum', in the pinned program and in every row, IS THE sha256 OF THE DUMP (.gsa) THAT YtejeikfgmiadhaaGreatProg.lean LOADS. Nothing in Lean hashes anything: it is a label: what it is worth is what the hold of that sum in a sandbox is worth. -/
noncomputable def Tryz.pinned : Pinned := { name := "ytejeikfgmiadhaagreat", sum := "15ce1f24c4eb1c7e0349edf9527c66ed15972dc27859b396f0ba97f51fd12fa4", checked := Tryz.checked }
namespace Rows
def none {H : Type} : Left H := { results := [], args := [] }

/-- 'laws.FnExactLandingsOf': WHATEVER THE INPUT: true; the input reads as it did. -/
def fnExactLandingsOfSpec : ChangeSpec := { name := "fnExactLandingsOf", fn := fun _ => fun
  | [d] => { results := [.lit (.bool true)], args := [d] }
  | _ => none }
def fnExactLandingsOfRow : OpenClaim := { program := "ytejeikfgmiadhaagreat", sum := "15ce1f24c4eb1c7e0349edf9527c66ed15972dc27859b396f0ba97f51fd12fa4", func := "loop.example/g03017/laws.FnExactLandingsOf", spec := "fnExactLandingsOf", inPlace := ["math.archFloor", "math.Float64bits", "math.Float64frombits", "math.archTrunc"], unfollowed := true, recurses := true, apart := false }
def FnExactLandingsOfSaid : Prop := fnExactLandingsOfRow.holds Tryz.pinned (OpenSpec.ofChange fnExactLandingsOfSpec)

/-- ITS FALSE NEIGHBOUR: 'it returns false'. Refute it at one input. -/
def fnExactLandingsOfWrong : ChangeSpec := { name := "fnExactLandingsOf", fn := fun _ => fun
  | [d] => { results := [.lit (.bool false)], args := [d] }
  | _ => none }
def FnExactLandingsOfWrongFalsely : Prop := fnExactLandingsOfRow.holds Tryz.pinned (OpenSpec.ofChange fnExactLandingsOfWrong)

/-- 'laws.FnExactDropsAt': WHATEVER THE INPUT: true; the input reads as it did. -/
def fnExactDropsAtSpec : ChangeSpec := { name := "fnExactDropsAt", fn := fun _ => fun
  | [d1, d2] => { results := [.lit (.bool true)], args := [d1, d2] }
  | _ => none }
def fnExactDropsAtRow : OpenClaim := { program := "ytejeikfgmiadhaagreat", sum := "15ce1f24c4eb1c7e0349edf9527c66ed15972dc27859b396f0ba97f51fd12fa4", func := "loop.example/g03017/laws.FnExactDropsAt", spec := "fnExactDropsAt", inPlace := ["math.archFloor", "math.Float64bits", "math.Float64frombits", "math.archTrunc"], unfollowed := true, recurses := true, apart := false }
def FnExactDropsAtSaid : Prop := fnExactDropsAtRow.holds Tryz.pinned (OpenSpec.ofChange fnExactDropsAtSpec)

/-- ITS FALSE NEIGHBOUR: 'it returns false'. Refute it at one input. -/
def fnExactDropsAtWrong : ChangeSpec := { name := "fnExactDropsAt", fn := fun _ => fun
  | [d1, d2] => { results := [.lit (.bool false)], args := [d1, d2] }
  | _ => none }
def FnExactDropsAtWrongFalsely : Prop := fnExactDropsAtRow.holds Tryz.pinned (OpenSpec.ofChange fnExactDropsAtWrong)

/-- 'laws.FnExactShiftShow': WHATEVER THE INPUT: true; the input reads as it did. -/
def fnExactShiftShowSpec : ChangeSpec := { name := "fnExactShiftShow", fn := fun _ => fun
  | [d1, d2] => { results := [.lit (.bool true)], args := [d1, d2] }
  | _ => none }
def fnExactShiftShowRow : OpenClaim := { program := "ytejeikfgmiadhaagreat", sum := "15ce1f24c4eb1c7e0349edf9527c66ed15972dc27859b396f0ba97f51fd12fa4", func := "loop.example/g03017/laws.FnExactShiftShow", spec := "fnExactShiftShow", unfollowed := true, recurses := true, apart := false }
def FnExactShiftShowSaid : Prop := fnExactShiftShowRow.holds Tryz.pinned (OpenSpec.ofChange fnExactShiftShowSpec)

/-- ITS FALSE NEIGHBOUR: 'it returns false'. Refute it at one input. -/
def fnExactShiftShowWrong : ChangeSpec := { name := "fnExactShiftShow", fn := fun _ => fun
  | [d1, d2] => { results := [.lit (.bool false)], args := [d1, d2] }
  | _ => none }
def FnExactShiftShowWrongFalsely : Prop := fnExactShiftShowRow.holds Tryz.pinned (OpenSpec.ofChange fnExactShiftShowWrong)

/-- 'laws.FnExactWetDrops': WHATEVER THE INPUT: true; the input reads as it did. -/
def fnExactWetDropsSpec : ChangeSpec := { name := "fnExactWetDrops", fn := fun _ => fun
  | [d1, d2] => { results := [.lit (.bool true)], args := [d1, d2] }
  | _ => none }
def fnExactWetDropsRow : OpenClaim := { program := "ytejeikfgmiadhaagreat", sum := "15ce1f24c4eb1c7e0349edf9527c66ed15972dc27859b396f0ba97f51fd12fa4", func := "loop.example/g03017/laws.FnExactWetDrops", spec := "fnExactWetDrops", inPlace := ["math.archFloor", "math.Float64bits", "math.Float64frombits", "math.archTrunc"], unfollowed := true, recurses := true, apart := false }
def FnExactWetDropsSaid : Prop := fnExactWetDropsRow.holds Tryz.pinned (OpenSpec.ofChange fnExactWetDropsSpec)

/-- ITS FALSE NEIGHBOUR: 'it returns false'. Refute it at one input. -/
def fnExactWetDropsWrong : ChangeSpec := { name := "fnExactWetDrops", fn := fun _ => fun
  | [d1, d2] => { results := [.lit (.bool false)], args := [d1, d2] }
  | _ => none }
def FnExactWetDropsWrongFalsely : Prop := fnExactWetDropsRow.holds Tryz.pinned (OpenSpec.ofChange fnExactWetDropsWrong)

/-- 'laws.FnExactIsDry': WHATEVER THE INPUT: true; the input reads as it did. -/
def fnExactIsDrySpec : ChangeSpec := { name := "fnExactIsDry", fn := fun _ => fun
  | [d1, d2] => { results := [.lit (.bool true)], args := [d1, d2] }
  | _ => none }
def fnExactIsDryRow : OpenClaim := { program := "ytejeikfgmiadhaagreat", sum := "15ce1f24c4eb1c7e0349edf9527c66ed15972dc27859b396f0ba97f51fd12fa4", func := "loop.example/g03017/laws.FnExactIsDry", spec := "fnExactIsDry", inPlace := ["math.archFloor", "math.Float64bits", "math.Float64frombits", "math.archTrunc"], unfollowed := true, recurses := true, apart := false }
def FnExactIsDrySaid : Prop := fnExactIsDryRow.holds Tryz.pinned (OpenSpec.ofChange fnExactIsDrySpec)

/-- ITS FALSE NEIGHBOUR: 'it returns false'. Refute it at one input. -/
def fnExactIsDryWrong : ChangeSpec := { name := "fnExactIsDry", fn := fun _ => fun
  | [d1, d2] => { results := [.lit (.bool false)], args := [d1, d2] }
  | _ => none }
def FnExactIsDryWrongFalsely : Prop := fnExactIsDryRow.holds Tryz.pinned (OpenSpec.ofChange fnExactIsDryWrong)

/- THE SECOND FORM. 'bulk': how many values and letters a reading holds, each counted each time it is reached (what is shared counts as often as it is met; a slice's spare places count too). A statement '..UptoSaid' is the law's where the arguments, and the package variables that the reading takes, are together of bulk at most 1048576: NARROWER than '..Said'. Prove '..Said' where nothing that the law and all that it calls make is longer than what came in: it says more and counts as full. Else prove '..UptoSaid'. A law counts once. -/
mutual
def uptoBulk {H : Type} : DataW H → Nat
  | .lit (.string bytes) => bytes.length + 1
  | .lit _ => 1
  | .nil => 1
  | .ptr d => uptoBulk d + 1
  | .slice elems spare => uptoBulkAll elems + uptoBulkAll spare + 1
  | .agg parts => uptoBulkAll parts + 1
  | .iface _ d => uptoBulk d + 1
  | .map entries => uptoBulkEntries entries + 1
  | .held _ => 1
def uptoBulkAll {H : Type} : List (DataW H) → Nat
  | [] => 0
  | d :: r => uptoBulk d + uptoBulkAll r
def uptoBulkEntries {H : Type} : List (Lit × DataW H) → Nat
  | [] => 0
  | x :: r => uptoBulkEntry x + uptoBulkEntries r
def uptoBulkEntry {H : Type} : Lit × DataW H → Nat
  | (.string bytes, d) => bytes.length + uptoBulk d + 1
  | (_, d) => uptoBulk d + 1
 end
def uptoSmall : (H : Type) → List (DataW H) → Bool := fun _ ds => decide (uptoBulkAll ds ≤ 1048576)
def OpenSpec.upto (s : _root_.Go.ChangeSpec) : _root_.Go.OpenSpec := { _root_.Go.OpenSpec.ofChange s with cond := some uptoSmall }

/-- 'laws.FnExactLandingsOf', WHERE WHAT IT READS IS OF BULK AT MOST 1048576: true; the input reads as it did. -/
def fnExactLandingsOfUptoRow : OpenClaim := { program := "ytejeikfgmiadhaagreat", sum := "15ce1f24c4eb1c7e0349edf9527c66ed15972dc27859b396f0ba97f51fd12fa4", func := "loop.example/g03017/laws.FnExactLandingsOf", spec := "fnExactLandingsOf", inPlace := ["math.archFloor", "math.Float64bits", "math.Float64frombits", "math.archTrunc"], unfollowed := true, recurses := true, apart := false, narrowed := true }
def FnExactLandingsOfUptoSaid : Prop := fnExactLandingsOfUptoRow.holds Tryz.pinned (OpenSpec.upto fnExactLandingsOfSpec)

/-- 'laws.FnExactDropsAt', WHERE WHAT IT READS IS OF BULK AT MOST 1048576: true; the input reads as it did. -/
def fnExactDropsAtUptoRow : OpenClaim := { program := "ytejeikfgmiadhaagreat", sum := "15ce1f24c4eb1c7e0349edf9527c66ed15972dc27859b396f0ba97f51fd12fa4", func := "loop.example/g03017/laws.FnExactDropsAt", spec := "fnExactDropsAt", inPlace := ["math.archFloor", "math.Float64bits", "math.Float64frombits", "math.archTrunc"], unfollowed := true, recurses := true, apart := false, narrowed := true }
def FnExactDropsAtUptoSaid : Prop := fnExactDropsAtUptoRow.holds Tryz.pinned (OpenSpec.upto fnExactDropsAtSpec)

/-- 'laws.FnExactShiftShow', WHERE WHAT IT READS IS OF BULK AT MOST 1048576: true; the input reads as it did. -/
def fnExactShiftShowUptoRow : OpenClaim := { program := "ytejeikfgmiadhaagreat", sum := "15ce1f24c4eb1c7e0349edf9527c66ed15972dc27859b396f0ba97f51fd12fa4", func := "loop.example/g03017/laws.FnExactShiftShow", spec := "fnExactShiftShow", unfollowed := true, recurses := true, apart := false, narrowed := true }
def FnExactShiftShowUptoSaid : Prop := fnExactShiftShowUptoRow.holds Tryz.pinned (OpenSpec.upto fnExactShiftShowSpec)

/-- 'laws.FnExactWetDrops', WHERE WHAT IT READS IS OF BULK AT MOST 1048576: true; the input reads as it did. -/
def fnExactWetDropsUptoRow : OpenClaim := { program := "ytejeikfgmiadhaagreat", sum := "15ce1f24c4eb1c7e0349edf9527c66ed15972dc27859b396f0ba97f51fd12fa4", func := "loop.example/g03017/laws.FnExactWetDrops", spec := "fnExactWetDrops", inPlace := ["math.archFloor", "math.Float64bits", "math.Float64frombits", "math.archTrunc"], unfollowed := true, recurses := true, apart := false, narrowed := true }
def FnExactWetDropsUptoSaid : Prop := fnExactWetDropsUptoRow.holds Tryz.pinned (OpenSpec.upto fnExactWetDropsSpec)

/-- 'laws.FnExactIsDry', WHERE WHAT IT READS IS OF BULK AT MOST 1048576: true; the input reads as it did. -/
def fnExactIsDryUptoRow : OpenClaim := { program := "ytejeikfgmiadhaagreat", sum := "15ce1f24c4eb1c7e0349edf9527c66ed15972dc27859b396f0ba97f51fd12fa4", func := "loop.example/g03017/laws.FnExactIsDry", spec := "fnExactIsDry", inPlace := ["math.archFloor", "math.Float64bits", "math.Float64frombits", "math.archTrunc"], unfollowed := true, recurses := true, apart := false, narrowed := true }
def FnExactIsDryUptoSaid : Prop := fnExactIsDryUptoRow.holds Tryz.pinned (OpenSpec.upto fnExactIsDrySpec)

end Rows
end Go.Proofs.YtejeikfgmiadhaaGreat
