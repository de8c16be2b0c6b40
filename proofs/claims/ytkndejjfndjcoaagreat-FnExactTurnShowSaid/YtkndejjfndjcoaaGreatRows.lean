/-
  No cell of these rows narrows 'for every input' (looked for: loops, veiled, ifaces, maps, wideKeys, modest, calm, conditions, laid).
  DERIVED. THE GIVEN ROWS OF THIS SEAT. 5 by the template 'for every input the law returns true; each argument reads behind the call as it read before'; 0 by the template 'total and deterministic' (their statements: YtkndejjfndjcoaaGreatTotals.lean).
  GIVEN WITH THE SEED: the statements are not yours to turn. If you find one false, say at which input.
  Laid BY PROGRAM, IN A SANDBOX (cutbox-rows.mjs): the forced cells as the released guide's own fill.sh prints them over the translation 1e7bfb857c532cd3… (all of the seat's roots in one cut). By AI agents, Wed Nov 11 2026. No macro, syntax, notation, axiom, sorry.
-/
import Derived.Test.YtkndejjfndjcoaaGreatChecked
import GoSem.Claim
import GoSem.ClaimJoined
import GoSem.ClaimMapViews
import Derived.JoinedTies
import Derived.KernelRfl
namespace Go.Proofs.YtkndejjfndjcoaaGreat
/- THE CELL 'sum', in the pinned program and in every row, IS THE sha256 OF THE DUMP (.gsa) THAT YtkndejjfndjcoaaGreatProg.lean LOADS. Nothing in Lean hashes anything: it is a label: what it is worth is what the hold of that sum in a sandbox is worth. -/
noncomputable def Tryz.pinned : Pinned := { name := "ytkndejjfndjcoaagreat", sum := "1e7bfb857c532cd3badcfb2e361f220f505f8f93f2f6ccd36384985e13845d0a", checked := Tryz.checked }
namespace Rows
def none {H : Type} : Left H := { results := [], args := [] }

/-- 'laws.FnExactLiftsAt': WHATEVER THE INPUT: true; the input reads as it did. -/
def fnExactLiftsAtSpec : ChangeSpec := { name := "fnExactLiftsAt", fn := fun _ => fun
  | [d1, d2] => { results := [.lit (.bool true)], args := [d1, d2] }
  | _ => none }
def fnExactLiftsAtRow : OpenClaim := { program := "ytkndejjfndjcoaagreat", sum := "1e7bfb857c532cd3badcfb2e361f220f505f8f93f2f6ccd36384985e13845d0a", func := "loop.example/g03017/laws.FnExactLiftsAt", spec := "fnExactLiftsAt", inPlace := ["math.archFloor", "math.Float64bits", "math.Float64frombits", "math.archTrunc"], unfollowed := true, recurses := true, apart := false }
def FnExactLiftsAtSaid : Prop := fnExactLiftsAtRow.holds Tryz.pinned (OpenSpec.ofChange fnExactLiftsAtSpec)

/-- ITS FALSE NEIGHBOUR: 'it returns false'. Refute it at one input. -/
def fnExactLiftsAtWrong : ChangeSpec := { name := "fnExactLiftsAt", fn := fun _ => fun
  | [d1, d2] => { results := [.lit (.bool false)], args := [d1, d2] }
  | _ => none }
def FnExactLiftsAtWrongFalsely : Prop := fnExactLiftsAtRow.holds Tryz.pinned (OpenSpec.ofChange fnExactLiftsAtWrong)

/-- 'laws.FnExactTurnShow': WHATEVER THE INPUT: true; the input reads as it did. -/
def fnExactTurnShowSpec : ChangeSpec := { name := "fnExactTurnShow", fn := fun _ => fun
  | [d1, d2] => { results := [.lit (.bool true)], args := [d1, d2] }
  | _ => none }
def fnExactTurnShowRow : OpenClaim := { program := "ytkndejjfndjcoaagreat", sum := "1e7bfb857c532cd3badcfb2e361f220f505f8f93f2f6ccd36384985e13845d0a", func := "loop.example/g03017/laws.FnExactTurnShow", spec := "fnExactTurnShow", unfollowed := true, recurses := true, apart := false }
def FnExactTurnShowSaid : Prop := fnExactTurnShowRow.holds Tryz.pinned (OpenSpec.ofChange fnExactTurnShowSpec)

/-- ITS FALSE NEIGHBOUR: 'it returns false'. Refute it at one input. -/
def fnExactTurnShowWrong : ChangeSpec := { name := "fnExactTurnShow", fn := fun _ => fun
  | [d1, d2] => { results := [.lit (.bool false)], args := [d1, d2] }
  | _ => none }
def FnExactTurnShowWrongFalsely : Prop := fnExactTurnShowRow.holds Tryz.pinned (OpenSpec.ofChange fnExactTurnShowWrong)

/-- 'laws.FnExactShiftShow': WHATEVER THE INPUT: true; the input reads as it did. -/
def fnExactShiftShowSpec : ChangeSpec := { name := "fnExactShiftShow", fn := fun _ => fun
  | [d1, d2] => { results := [.lit (.bool true)], args := [d1, d2] }
  | _ => none }
def fnExactShiftShowRow : OpenClaim := { program := "ytkndejjfndjcoaagreat", sum := "1e7bfb857c532cd3badcfb2e361f220f505f8f93f2f6ccd36384985e13845d0a", func := "loop.example/g03017/laws.FnExactShiftShow", spec := "fnExactShiftShow", unfollowed := true, recurses := true, apart := false }
def FnExactShiftShowSaid : Prop := fnExactShiftShowRow.holds Tryz.pinned (OpenSpec.ofChange fnExactShiftShowSpec)

/-- ITS FALSE NEIGHBOUR: 'it returns false'. Refute it at one input. -/
def fnExactShiftShowWrong : ChangeSpec := { name := "fnExactShiftShow", fn := fun _ => fun
  | [d1, d2] => { results := [.lit (.bool false)], args := [d1, d2] }
  | _ => none }
def FnExactShiftShowWrongFalsely : Prop := fnExactShiftShowRow.holds Tryz.pinned (OpenSpec.ofChange fnExactShiftShowWrong)

/-- 'laws.FnExactJetAt': WHATEVER THE INPUT: true; the input reads as it did. -/
def fnExactJetAtSpec : ChangeSpec := { name := "fnExactJetAt", fn := fun _ => fun
  | [d1, d2, d3] => { results := [.lit (.bool true)], args := [d1, d2, d3] }
  | _ => none }
def fnExactJetAtRow : OpenClaim := { program := "ytkndejjfndjcoaagreat", sum := "1e7bfb857c532cd3badcfb2e361f220f505f8f93f2f6ccd36384985e13845d0a", func := "loop.example/g03017/laws.FnExactJetAt", spec := "fnExactJetAt", inPlace := ["math.archFloor", "math.Float64bits", "math.Float64frombits", "math.archTrunc"], unfollowed := true, recurses := true, apart := false }
def FnExactJetAtSaid : Prop := fnExactJetAtRow.holds Tryz.pinned (OpenSpec.ofChange fnExactJetAtSpec)

/-- ITS FALSE NEIGHBOUR: 'it returns false'. Refute it at one input. -/
def fnExactJetAtWrong : ChangeSpec := { name := "fnExactJetAt", fn := fun _ => fun
  | [d1, d2, d3] => { results := [.lit (.bool false)], args := [d1, d2, d3] }
  | _ => none }
def FnExactJetAtWrongFalsely : Prop := fnExactJetAtRow.holds Tryz.pinned (OpenSpec.ofChange fnExactJetAtWrong)

/-- 'laws.FnExactLitAt': WHATEVER THE INPUT: true; the input reads as it did. -/
def fnExactLitAtSpec : ChangeSpec := { name := "fnExactLitAt", fn := fun _ => fun
  | [d1, d2] => { results := [.lit (.bool true)], args := [d1, d2] }
  | _ => none }
def fnExactLitAtRow : OpenClaim := { program := "ytkndejjfndjcoaagreat", sum := "1e7bfb857c532cd3badcfb2e361f220f505f8f93f2f6ccd36384985e13845d0a", func := "loop.example/g03017/laws.FnExactLitAt", spec := "fnExactLitAt", inPlace := ["math.archFloor", "math.Float64bits", "math.Float64frombits", "math.archTrunc"], unfollowed := true, recurses := true, apart := false }
def FnExactLitAtSaid : Prop := fnExactLitAtRow.holds Tryz.pinned (OpenSpec.ofChange fnExactLitAtSpec)

/-- ITS FALSE NEIGHBOUR: 'it returns false'. Refute it at one input. -/
def fnExactLitAtWrong : ChangeSpec := { name := "fnExactLitAt", fn := fun _ => fun
  | [d1, d2] => { results := [.lit (.bool false)], args := [d1, d2] }
  | _ => none }
def FnExactLitAtWrongFalsely : Prop := fnExactLitAtRow.holds Tryz.pinned (OpenSpec.ofChange fnExactLitAtWrong)

/- THE SECOND FORM. 'bulk': how many values and letters a reading holds, each counted each time it is reached (what is shared counts as often as it is met; a slice's spare places count too). A statement '..UptoSaid' is the law's where the arguments, and the package variables that the reading takes, are together of bulk at most 1048576: NARROWER than '..Said'. Prove '..Said' where nothing that the law and all that it calls make is longer than what came in: it says more and counts as full. Else prove '..UptoSaid'. A law counts once. -/
mutual
def uptoBulk {H : Type} : DataW H → Nat
  | .lit (.string bytes) => bytes.length + 1
  | .lit _ => 1
  | .nil => 1
  | .ptr d => uptoBulk d + 1
  | .slice elems spare => uptoBulkAll elems + uptoBulkAll spare + 1
  | .agg parts => uptoBulkAll parts + 1
  | .iface _ d => uptoBulk d + 1
  | .map entries => uptoBulkEntries entries + 1
  | .held _ => 1
def uptoBulkAll {H : Type} : List (DataW H) → Nat
  | [] => 0
  | d :: r => uptoBulk d + uptoBulkAll r
def uptoBulkEntries {H : Type} : List (Lit × DataW H) → Nat
  | [] => 0
  | x :: r => uptoBulkEntry x + uptoBulkEntries r
def uptoBulkEntry {H : Type} : Lit × DataW H → Nat
  | (.string bytes, d) => bytes.length + uptoBulk d + 1
  | (_, d) => uptoBulk d + 1
 end
def uptoSmall : (H : Type) → List (DataW H) → Bool := fun _ ds => decide (uptoBulkAll ds ≤ 1048576)
def OpenSpec.upto (s : _root_.Go.ChangeSpec) : _root_.Go.OpenSpec := { _root_.Go.OpenSpec.ofChange s with cond := some uptoSmall }

/-- 'laws.FnExactLiftsAt', WHERE WHAT IT READS IS OF BULK AT MOST 1048576: true; the input reads as it did. -/
def fnExactLiftsAtUptoRow : OpenClaim := { program := "ytkndejjfndjcoaagreat", sum := "1e7bfb857c532cd3badcfb2e361f220f505f8f93f2f6ccd36384985e13845d0a", func := "loop.example/g03017/laws.FnExactLiftsAt", spec := "fnExactLiftsAt", inPlace := ["math.archFloor", "math.Float64bits", "math.Float64frombits", "math.archTrunc"], unfollowed := true, recurses := true, apart := false, narrowed := true }
def FnExactLiftsAtUptoSaid : Prop := fnExactLiftsAtUptoRow.holds Tryz.pinned (OpenSpec.upto fnExactLiftsAtSpec)

/-- 'laws.FnExactTurnShow', WHERE WHAT IT READS IS OF BULK AT MOST 1048576: true; the input reads as it did. -/
def fnExactTurnShowUptoRow : OpenClaim := { program := "ytkndejjfndjcoaagreat", sum := "1e7bfb857c532cd3badcfb2e361f220f505f8f93f2f6ccd36384985e13845d0a", func := "loop.example/g03017/laws.FnExactTurnShow", spec := "fnExactTurnShow", unfollowed := true, recurses := true, apart := false, narrowed := true }
def FnExactTurnShowUptoSaid : Prop := fnExactTurnShowUptoRow.holds Tryz.pinned (OpenSpec.upto fnExactTurnShowSpec)

/-- 'laws.FnExactShiftShow', WHERE WHAT IT READS IS OF BULK AT MOST 1048576: true; the input reads as it did. -/
def fnExactShiftShowUptoRow : OpenClaim := { program := "ytkndejjfndjcoaagreat", sum := "1e7bfb857c532cd3badcfb2e361f220f505f8f93f2f6ccd36384985e13845d0a", func := "loop.example/g03017/laws.FnExactShiftShow", spec := "fnExactShiftShow", unfollowed := true, recurses := true, apart := false, narrowed := true }
def FnExactShiftShowUptoSaid : Prop := fnExactShiftShowUptoRow.holds Tryz.pinned (OpenSpec.upto fnExactShiftShowSpec)

/-- 'laws.FnExactJetAt', WHERE WHAT IT READS IS OF BULK AT MOST 1048576: true; the input reads as it did. -/
def fnExactJetAtUptoRow : OpenClaim := { program := "ytkndejjfndjcoaagreat", sum := "1e7bfb857c532cd3badcfb2e361f220f505f8f93f2f6ccd36384985e13845d0a", func := "loop.example/g03017/laws.FnExactJetAt", spec := "fnExactJetAt", inPlace := ["math.archFloor", "math.Float64bits", "math.Float64frombits", "math.archTrunc"], unfollowed := true, recurses := true, apart := false, narrowed := true }
def FnExactJetAtUptoSaid : Prop := fnExactJetAtUptoRow.holds Tryz.pinned (OpenSpec.upto fnExactJetAtSpec)

/-- 'laws.FnExactLitAt', WHERE WHAT IT READS IS OF BULK AT MOST 1048576: true; the input reads as it did. -/
def fnExactLitAtUptoRow : OpenClaim := { program := "ytkndejjfndjcoaagreat", sum := "1e7bfb857c532cd3badcfb2e361f220f505f8f93f2f6ccd36384985e13845d0a", func := "loop.example/g03017/laws.FnExactLitAt", spec := "fnExactLitAt", inPlace := ["math.archFloor", "math.Float64bits", "math.Float64frombits", "math.archTrunc"], unfollowed := true, recurses := true, apart := false, narrowed := true }
def FnExactLitAtUptoSaid : Prop := fnExactLitAtUptoRow.holds Tryz.pinned (OpenSpec.upto fnExactLitAtSpec)

end Rows
end Go.Proofs.YtkndejjfndjcoaaGreat
