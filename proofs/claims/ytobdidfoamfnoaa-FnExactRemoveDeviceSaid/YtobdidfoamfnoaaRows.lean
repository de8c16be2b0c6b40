/-
  No cell of these rows narrows 'for every input' (looked for: loops, veiled, ifaces, maps, wideKeys, modest, calm, conditions, laid).
  DERIVED. THE GIVEN ROWS OF THIS SEAT. 10 by the template 'for every input the law returns true; each argument reads behind the call as it read before'; 0 by the template 'total and deterministic' (their statements: YtobdidfoamfnoaaTotals.lean).
  GIVEN WITH THE SEED: the statements are not yours to turn. If you find one false, say at which input.
  Laid BY PROGRAM, IN A SANDBOX (cutbox-rows.mjs): the forced cells as the released guide's own fill.sh prints them over the translation 8764056fcd621e3f… (all of the seat's roots in one cut). By AI agents, Wed Nov 11 2026. No macro, syntax, notation, axiom, sorry.
-/
import Derived.Test.YtobdidfoamfnoaaChecked
import GoSem.Claim
import GoSem.ClaimJoined
import GoSem.ClaimMapViews
import Derived.JoinedTies
import Derived.KernelRfl
namespace Go.Proofs.Ytobdidfoamfnoaa
/- THE CELL 'sum', in the pinned program and in every row, IS THE sha256 OF THE DUMP (.gsa) THAT YtobdidfoamfnoaaProg.lean LOADS. Nothing in Lean hashes anything: it is a label: what it is worth is what the hold of that sum in a sandbox is worth. -/
noncomputable def Try.pinned : Pinned := { name := "ytobdidfoamfnoaa", sum := "8764056fcd621e3f855575084fda7d86d865749c440887c9abb19f97a517888e", checked := Try.checked }
namespace Rows
def none {H : Type} : Left H := { results := [], args := [] }

/-- 'laws.FnExactIsDevice': WHATEVER THE INPUT: true; the input reads as it did. -/
def fnExactIsDeviceSpec : ChangeSpec := { name := "fnExactIsDevice", fn := fun _ => fun
  | [d] => { results := [.lit (.bool true)], args := [d] }
  | _ => none }
def fnExactIsDeviceRow : OpenClaim := { program := "ytobdidfoamfnoaa", sum := "8764056fcd621e3f855575084fda7d86d865749c440887c9abb19f97a517888e", func := "loop.example/g03017/laws.FnExactIsDevice", spec := "fnExactIsDevice", unfollowed := true, recurses := true, apart := false }
def FnExactIsDeviceSaid : Prop := fnExactIsDeviceRow.holds Try.pinned (OpenSpec.ofChange fnExactIsDeviceSpec)

/-- ITS FALSE NEIGHBOUR: 'it returns false'. Refute it at one input. -/
def fnExactIsDeviceWrong : ChangeSpec := { name := "fnExactIsDevice", fn := fun _ => fun
  | [d] => { results := [.lit (.bool false)], args := [d] }
  | _ => none }
def FnExactIsDeviceWrongFalsely : Prop := fnExactIsDeviceRow.holds Try.pinned (OpenSpec.ofChange fnExactIsDeviceWrong)

/-- 'laws.FnExactFindDevice': WHATEVER THE INPUT: true; the input reads as it did. -/
def fnExactFindDeviceSpec : ChangeSpec := { name := "fnExactFindDevice", fn := fun _ => fun
  | [d1, d2] => { results := [.lit (.bool true)], args := [d1, d2] }
  | _ => none }
def fnExactFindDeviceRow : OpenClaim := { program := "ytobdidfoamfnoaa", sum := "8764056fcd621e3f855575084fda7d86d865749c440887c9abb19f97a517888e", func := "loop.example/g03017/laws.FnExactFindDevice", spec := "fnExactFindDevice", unfollowed := true, recurses := true, apart := false }
def FnExactFindDeviceSaid : Prop := fnExactFindDeviceRow.holds Try.pinned (OpenSpec.ofChange fnExactFindDeviceSpec)

/-- ITS FALSE NEIGHBOUR: 'it returns false'. Refute it at one input. -/
def fnExactFindDeviceWrong : ChangeSpec := { name := "fnExactFindDevice", fn := fun _ => fun
  | [d1, d2] => { results := [.lit (.bool false)], args := [d1, d2] }
  | _ => none }
def FnExactFindDeviceWrongFalsely : Prop := fnExactFindDeviceRow.holds Try.pinned (OpenSpec.ofChange fnExactFindDeviceWrong)

/-- 'laws.FnExactIsRig': WHATEVER THE INPUT: true; the input reads as it did. -/
def fnExactIsRigSpec : ChangeSpec := { name := "fnExactIsRig", fn := fun _ => fun
  | [d] => { results := [.lit (.bool true)], args := [d] }
  | _ => none }
def fnExactIsRigRow : OpenClaim := { program := "ytobdidfoamfnoaa", sum := "8764056fcd621e3f855575084fda7d86d865749c440887c9abb19f97a517888e", func := "loop.example/g03017/laws.FnExactIsRig", spec := "fnExactIsRig", unfollowed := true, recurses := true, apart := false }
def FnExactIsRigSaid : Prop := fnExactIsRigRow.holds Try.pinned (OpenSpec.ofChange fnExactIsRigSpec)

/-- ITS FALSE NEIGHBOUR: 'it returns false'. Refute it at one input. -/
def fnExactIsRigWrong : ChangeSpec := { name := "fnExactIsRig", fn := fun _ => fun
  | [d] => { results := [.lit (.bool false)], args := [d] }
  | _ => none }
def FnExactIsRigWrongFalsely : Prop := fnExactIsRigRow.holds Try.pinned (OpenSpec.ofChange fnExactIsRigWrong)

/-- 'laws.FnExactOnLine': WHATEVER THE INPUT: true; the input reads as it did. -/
def fnExactOnLineSpec : ChangeSpec := { name := "fnExactOnLine", fn := fun _ => fun
  | [d1, d2] => { results := [.lit (.bool true)], args := [d1, d2] }
  | _ => none }
def fnExactOnLineRow : OpenClaim := { program := "ytobdidfoamfnoaa", sum := "8764056fcd621e3f855575084fda7d86d865749c440887c9abb19f97a517888e", func := "loop.example/g03017/laws.FnExactOnLine", spec := "fnExactOnLine", unfollowed := true, recurses := true, apart := false }
def FnExactOnLineSaid : Prop := fnExactOnLineRow.holds Try.pinned (OpenSpec.ofChange fnExactOnLineSpec)

/-- ITS FALSE NEIGHBOUR: 'it returns false'. Refute it at one input. -/
def fnExactOnLineWrong : ChangeSpec := { name := "fnExactOnLine", fn := fun _ => fun
  | [d1, d2] => { results := [.lit (.bool false)], args := [d1, d2] }
  | _ => none }
def FnExactOnLineWrongFalsely : Prop := fnExactOnLineRow.holds Try.pinned (OpenSpec.ofChange fnExactOnLineWrong)

/-- 'laws.FnExactRemoveDevice': WHATEVER THE INPUT: true; the input reads as it did. -/
def fnExactRemoveDeviceSpec : ChangeSpec := { name := "fnExactRemoveDevice", fn := fun _ => fun
  | [d1, d2] => { results := [.lit (.bool true)], args := [d1, d2] }
  | _ => none }
def fnExactRemoveDeviceRow : OpenClaim := { program := "ytobdidfoamfnoaa", sum := "8764056fcd621e3f855575084fda7d86d865749c440887c9abb19f97a517888e", func := "loop.example/g03017/laws.FnExactRemoveDevice", spec := "fnExactRemoveDevice", unfollowed := true, recurses := true, apart := false }
def FnExactRemoveDeviceSaid : Prop := fnExactRemoveDeviceRow.holds Try.pinned (OpenSpec.ofChange fnExactRemoveDeviceSpec)

/-- ITS FALSE NEIGHBOUR: 'it returns false'. Refute it at one input. -/
def fnExactRemoveDeviceWrong : ChangeSpec := { name := "fnExactRemoveDevice", fn := fun _ => fun
  | [d1, d2] => { results := [.lit (.bool false)], args := [d1, d2] }
  | _ => none }
def FnExactRemoveDeviceWrongFalsely : Prop := fnExactRemoveDeviceRow.holds Try.pinned (OpenSpec.ofChange fnExactRemoveDeviceWrong)

/-- 'laws.FnExactSameLine': WHATEVER THE INPUT: true; the input reads as it did. -/
def fnExactSameLineSpec : ChangeSpec := { name := "fnExactSameLine", fn := fun _ => fun
  | [d1, d2, d3] => { results := [.lit (.bool true)], args := [d1, d2, d3] }
  | _ => none }
def fnExactSameLineRow : OpenClaim := { program := "ytobdidfoamfnoaa", sum := "8764056fcd621e3f855575084fda7d86d865749c440887c9abb19f97a517888e", func := "loop.example/g03017/laws.FnExactSameLine", spec := "fnExactSameLine", unfollowed := true, recurses := true, apart := false }
def FnExactSameLineSaid : Prop := fnExactSameLineRow.holds Try.pinned (OpenSpec.ofChange fnExactSameLineSpec)

/-- ITS FALSE NEIGHBOUR: 'it returns false'. Refute it at one input. -/
def fnExactSameLineWrong : ChangeSpec := { name := "fnExactSameLine", fn := fun _ => fun
  | [d1, d2, d3] => { results := [.lit (.bool false)], args := [d1, d2, d3] }
  | _ => none }
def FnExactSameLineWrongFalsely : Prop := fnExactSameLineRow.holds Try.pinned (OpenSpec.ofChange fnExactSameLineWrong)

/-- 'laws.FnExactPumpOf': WHATEVER THE INPUT: true; the input reads as it did. -/
def fnExactPumpOfSpec : ChangeSpec := { name := "fnExactPumpOf", fn := fun _ => fun
  | [d1, d2] => { results := [.lit (.bool true)], args := [d1, d2] }
  | _ => none }
def fnExactPumpOfRow : OpenClaim := { program := "ytobdidfoamfnoaa", sum := "8764056fcd621e3f855575084fda7d86d865749c440887c9abb19f97a517888e", func := "loop.example/g03017/laws.FnExactPumpOf", spec := "fnExactPumpOf", unfollowed := true, recurses := true, apart := false }
def FnExactPumpOfSaid : Prop := fnExactPumpOfRow.holds Try.pinned (OpenSpec.ofChange fnExactPumpOfSpec)

/-- ITS FALSE NEIGHBOUR: 'it returns false'. Refute it at one input. -/
def fnExactPumpOfWrong : ChangeSpec := { name := "fnExactPumpOf", fn := fun _ => fun
  | [d1, d2] => { results := [.lit (.bool false)], args := [d1, d2] }
  | _ => none }
def FnExactPumpOfWrongFalsely : Prop := fnExactPumpOfRow.holds Try.pinned (OpenSpec.ofChange fnExactPumpOfWrong)

/-- 'laws.FnExactTurnRig': WHATEVER THE INPUT: true; the input reads as it did. -/
def fnExactTurnRigSpec : ChangeSpec := { name := "fnExactTurnRig", fn := fun _ => fun
  | [d1, d2] => { results := [.lit (.bool true)], args := [d1, d2] }
  | _ => none }
def fnExactTurnRigRow : OpenClaim := { program := "ytobdidfoamfnoaa", sum := "8764056fcd621e3f855575084fda7d86d865749c440887c9abb19f97a517888e", func := "loop.example/g03017/laws.FnExactTurnRig", spec := "fnExactTurnRig", unfollowed := true, recurses := true, apart := false }
def FnExactTurnRigSaid : Prop := fnExactTurnRigRow.holds Try.pinned (OpenSpec.ofChange fnExactTurnRigSpec)

/-- ITS FALSE NEIGHBOUR: 'it returns false'. Refute it at one input. -/
def fnExactTurnRigWrong : ChangeSpec := { name := "fnExactTurnRig", fn := fun _ => fun
  | [d1, d2] => { results := [.lit (.bool false)], args := [d1, d2] }
  | _ => none }
def FnExactTurnRigWrongFalsely : Prop := fnExactTurnRigRow.holds Try.pinned (OpenSpec.ofChange fnExactTurnRigWrong)

/-- 'laws.FnExactShiftRig': WHATEVER THE INPUT: true; the input reads as it did. -/
def fnExactShiftRigSpec : ChangeSpec := { name := "fnExactShiftRig", fn := fun _ => fun
  | [d1, d2] => { results := [.lit (.bool true)], args := [d1, d2] }
  | _ => none }
def fnExactShiftRigRow : OpenClaim := { program := "ytobdidfoamfnoaa", sum := "8764056fcd621e3f855575084fda7d86d865749c440887c9abb19f97a517888e", func := "loop.example/g03017/laws.FnExactShiftRig", spec := "fnExactShiftRig", unfollowed := true, recurses := true, apart := false }
def FnExactShiftRigSaid : Prop := fnExactShiftRigRow.holds Try.pinned (OpenSpec.ofChange fnExactShiftRigSpec)

/-- ITS FALSE NEIGHBOUR: 'it returns false'. Refute it at one input. -/
def fnExactShiftRigWrong : ChangeSpec := { name := "fnExactShiftRig", fn := fun _ => fun
  | [d1, d2] => { results := [.lit (.bool false)], args := [d1, d2] }
  | _ => none }
def FnExactShiftRigWrongFalsely : Prop := fnExactShiftRigRow.holds Try.pinned (OpenSpec.ofChange fnExactShiftRigWrong)

/-- 'laws.FnLines': WHATEVER THE INPUT: true; the input reads as it did. -/
def fnLinesSpec : ChangeSpec := { name := "fnLines", fn := fun _ => fun
  | [d] => { results := [.lit (.bool true)], args := [d] }
  | _ => none }
def fnLinesRow : OpenClaim := { program := "ytobdidfoamfnoaa", sum := "8764056fcd621e3f855575084fda7d86d865749c440887c9abb19f97a517888e", func := "loop.example/g03017/laws.FnLines", spec := "fnLines", unfollowed := true, recurses := true, apart := false }
def FnLinesSaid : Prop := fnLinesRow.holds Try.pinned (OpenSpec.ofChange fnLinesSpec)

/-- ITS FALSE NEIGHBOUR: 'it returns false'. Refute it at one input. -/
def fnLinesWrong : ChangeSpec := { name := "fnLines", fn := fun _ => fun
  | [d] => { results := [.lit (.bool false)], args := [d] }
  | _ => none }
def FnLinesWrongFalsely : Prop := fnLinesRow.holds Try.pinned (OpenSpec.ofChange fnLinesWrong)

/- THE SECOND FORM. 'bulk': how many values and letters a reading holds, each counted each time it is reached (what is shared counts as often as it is met; a slice's spare places count too). A statement '..UptoSaid' is the law's where the arguments, and the package variables that the reading takes, are together of bulk at most 1048576: NARROWER than '..Said'. Prove '..Said' where nothing that the law and all that it calls make is longer than what came in: it says more and counts as full. Else prove '..UptoSaid'. A law counts once. -/
mutual
def uptoBulk {H : Type} : DataW H → Nat
  | .lit (.string bytes) => bytes.length + 1
  | .lit _ => 1
  | .nil => 1
  | .ptr d => uptoBulk d + 1
  | .slice elems spare => uptoBulkAll elems + uptoBulkAll spare + 1
  | .agg parts => uptoBulkAll parts + 1
  | .iface _ d => uptoBulk d + 1
  | .map entries => uptoBulkEntries entries + 1
  | .held _ => 1
def uptoBulkAll {H : Type} : List (DataW H) → Nat
  | [] => 0
  | d :: r => uptoBulk d + uptoBulkAll r
def uptoBulkEntries {H : Type} : List (Lit × DataW H) → Nat
  | [] => 0
  | x :: r => uptoBulkEntry x + uptoBulkEntries r
def uptoBulkEntry {H : Type} : Lit × DataW H → Nat
  | (.string bytes, d) => bytes.length + uptoBulk d + 1
  | (_, d) => uptoBulk d + 1
 end
def uptoSmall : (H : Type) → List (DataW H) → Bool := fun _ ds => decide (uptoBulkAll ds ≤ 1048576)
def OpenSpec.upto (s : _root_.Go.ChangeSpec) : _root_.Go.OpenSpec := { _root_.Go.OpenSpec.ofChange s with cond := some uptoSmall }

/-- 'laws.FnExactIsDevice', WHERE WHAT IT READS IS OF BULK AT MOST 1048576: true; the input reads as it did. -/
def fnExactIsDeviceUptoRow : OpenClaim := { program := "ytobdidfoamfnoaa", sum := "8764056fcd621e3f855575084fda7d86d865749c440887c9abb19f97a517888e", func := "loop.example/g03017/laws.FnExactIsDevice", spec := "fnExactIsDevice", unfollowed := true, recurses := true, apart := false, narrowed := true }
def FnExactIsDeviceUptoSaid : Prop := fnExactIsDeviceUptoRow.holds Try.pinned (OpenSpec.upto fnExactIsDeviceSpec)

/-- 'laws.FnExactFindDevice', WHERE WHAT IT READS IS OF BULK AT MOST 1048576: true; the input reads as it did. -/
def fnExactFindDeviceUptoRow : OpenClaim := { program := "ytobdidfoamfnoaa", sum := "8764056fcd621e3f855575084fda7d86d865749c440887c9abb19f97a517888e", func := "loop.example/g03017/laws.FnExactFindDevice", spec := "fnExactFindDevice", unfollowed := true, recurses := true, apart := false, narrowed := true }
def FnExactFindDeviceUptoSaid : Prop := fnExactFindDeviceUptoRow.holds Try.pinned (OpenSpec.upto fnExactFindDeviceSpec)

/-- 'laws.FnExactIsRig', WHERE WHAT IT READS IS OF BULK AT MOST 1048576: true; the input reads as it did. -/
def fnExactIsRigUptoRow : OpenClaim := { program := "ytobdidfoamfnoaa", sum := "8764056fcd621e3f855575084fda7d86d865749c440887c9abb19f97a517888e", func := "loop.example/g03017/laws.FnExactIsRig", spec := "fnExactIsRig", unfollowed := true, recurses := true, apart := false, narrowed := true }
def FnExactIsRigUptoSaid : Prop := fnExactIsRigUptoRow.holds Try.pinned (OpenSpec.upto fnExactIsRigSpec)

/-- 'laws.FnExactOnLine', WHERE WHAT IT READS IS OF BULK AT MOST 1048576: true; the input reads as it did. -/
def fnExactOnLineUptoRow : OpenClaim := { program := "ytobdidfoamfnoaa", sum := "8764056fcd621e3f855575084fda7d86d865749c440887c9abb19f97a517888e", func := "loop.example/g03017/laws.FnExactOnLine", spec := "fnExactOnLine", unfollowed := true, recurses := true, apart := false, narrowed := true }
def FnExactOnLineUptoSaid : Prop := fnExactOnLineUptoRow.holds Try.pinned (OpenSpec.upto fnExactOnLineSpec)

/-- 'laws.FnExactRemoveDevice', WHERE WHAT IT READS IS OF BULK AT MOST 1048576: true; the input reads as it did. -/
def fnExactRemoveDeviceUptoRow : OpenClaim := { program := "ytobdidfoamfnoaa", sum := "8764056fcd621e3f855575084fda7d86d865749c440887c9abb19f97a517888e", func := "loop.example/g03017/laws.FnExactRemoveDevice", spec := "fnExactRemoveDevice", unfollowed := true, recurses := true, apart := false, narrowed := true }
def FnExactRemoveDeviceUptoSaid : Prop := fnExactRemoveDeviceUptoRow.holds Try.pinned (OpenSpec.upto fnExactRemoveDeviceSpec)

/-- 'laws.FnExactSameLine', WHERE WHAT IT READS IS OF BULK AT MOST 1048576: true; the input reads as it did. -/
def fnExactSameLineUptoRow : OpenClaim := { program := "ytobdidfoamfnoaa", sum := "8764056fcd621e3f855575084fda7d86d865749c440887c9abb19f97a517888e", func := "loop.example/g03017/laws.FnExactSameLine", spec := "fnExactSameLine", unfollowed := true, recurses := true, apart := false, narrowed := true }
def FnExactSameLineUptoSaid : Prop := fnExactSameLineUptoRow.holds Try.pinned (OpenSpec.upto fnExactSameLineSpec)

/-- 'laws.FnExactPumpOf', WHERE WHAT IT READS IS OF BULK AT MOST 1048576: true; the input reads as it did. -/
def fnExactPumpOfUptoRow : OpenClaim := { program := "ytobdidfoamfnoaa", sum := "8764056fcd621e3f855575084fda7d86d865749c440887c9abb19f97a517888e", func := "loop.example/g03017/laws.FnExactPumpOf", spec := "fnExactPumpOf", unfollowed := true, recurses := true, apart := false, narrowed := true }
def FnExactPumpOfUptoSaid : Prop := fnExactPumpOfUptoRow.holds Try.pinned (OpenSpec.upto fnExactPumpOfSpec)

/-- 'laws.FnExactTurnRig', WHERE WHAT IT READS IS OF BULK AT MOST 1048576: true; the input reads as it did. -/
def fnExactTurnRigUptoRow : OpenClaim := { program := "ytobdidfoamfnoaa", sum := "8764056fcd621e3f855575084fda7d86d865749c440887c9abb19f97a517888e", func := "loop.example/g03017/laws.FnExactTurnRig", spec := "fnExactTurnRig", unfollowed := true, recurses := true, apart := false, narrowed := true }
def FnExactTurnRigUptoSaid : Prop := fnExactTurnRigUptoRow.holds Try.pinned (OpenSpec.upto fnExactTurnRigSpec)

/-- 'laws.FnExactShiftRig', WHERE WHAT IT READS IS OF BULK AT MOST 1048576: true; the input reads as it did. -/
def fnExactShiftRigUptoRow : OpenClaim := { program := "ytobdidfoamfnoaa", sum := "8764056fcd621e3f855575084fda7d86d865749c440887c9abb19f97a517888e", func := "loop.example/g03017/laws.FnExactShiftRig", spec := "fnExactShiftRig", unfollowed := true, recurses := true, apart := false, narrowed := true }
def FnExactShiftRigUptoSaid : Prop := fnExactShiftRigUptoRow.holds Try.pinned (OpenSpec.upto fnExactShiftRigSpec)

/-- 'laws.FnLines', WHERE WHAT IT READS IS OF BULK AT MOST 1048576: true; the input reads as it did. -/
def fnLinesUptoRow : OpenClaim := { program := "ytobdidfoamfnoaa", sum := "8764056fcd621e3f855575084fda7d86d865749c440887c9abb19f97a517888e", func := "loop.example/g03017/laws.FnLines", spec := "fnLines", unfollowed := true, recurses := true, apart := false, narrowed := true }
def FnLinesUptoSaid : Prop := fnLinesUptoRow.holds Try.pinned (OpenSpec.upto fnLinesSpec)

end Rows
end Go.Proofs.Ytobdidfoamfnoaa
