/-
  No cell of these rows narrows 'for every input' (looked for: loops, veiled, ifaces, maps, wideKeys, modest, calm, conditions, laid).
  DERIVED. THE GIVEN ROWS OF THIS SEAT. 12 by the template 'for every input the law returns true; each argument reads behind the call as it read before'; 0 by the template 'total and deterministic' (their statements: YthlcmcpfpblmaaaTotals.lean).
  GIVEN WITH THE SEED: the statements are not yours to turn. If you find one false, say at which input.
  Laid BY PROGRAM, IN A SANDBOX (cutbox-rows.mjs): the forced cells as the released guide's own fill.sh prints them over the translation 4a9c31bbe7ca90b4… (all of the seat's roots in one cut). By AI agents, Wed Nov 11 2026. No macro, syntax, notation, axiom, sorry.
-/
import Derived.Test.YthlcmcpfpblmaaaChecked
import GoSem.Claim
import GoSem.ClaimJoined
import GoSem.ClaimMapViews
import Derived.JoinedTies
import Derived.KernelRfl
namespace Go.Proofs.Ythlcmcpfpblmaaa
/- THE CELL 'sum', in the pinned program and in every row, IS THE sha256 OF THE DUMP (.gsa) THAT YthlcmcpfpblmaaaProg.lean LOADS. Nothing in Lean hashes anything: it is a label: what it is worth is what the hold of that sum in a sandbox is worth. -/
noncomputable def Try.pinned : Pinned := { name := "ythlcmcpfpblmaaa", sum := "4a9c31bbe7ca90b496c9f8980bc3a360d8986ed8de67421baf04ff485206809e", checked := Try.checked }
namespace Rows
def none {H : Type} : Left H := { results := [], args := [] }

/-- 'laws.FnExactIsDemands': WHATEVER THE INPUT: true; the input reads as it did. -/
def fnExactIsDemandsSpec : ChangeSpec := { name := "fnExactIsDemands", fn := fun _ => fun
  | [d] => { results := [.lit (.bool true)], args := [d] }
  | _ => none }
def fnExactIsDemandsRow : OpenClaim := { program := "ythlcmcpfpblmaaa", sum := "4a9c31bbe7ca90b496c9f8980bc3a360d8986ed8de67421baf04ff485206809e", func := "loop.example/g03017/laws.FnExactIsDemands", spec := "fnExactIsDemands", apart := false }
def FnExactIsDemandsSaid : Prop := fnExactIsDemandsRow.holds Try.pinned (OpenSpec.ofChange fnExactIsDemandsSpec)

/-- ITS FALSE NEIGHBOUR: 'it returns false'. Refute it at one input. -/
def fnExactIsDemandsWrong : ChangeSpec := { name := "fnExactIsDemands", fn := fun _ => fun
  | [d] => { results := [.lit (.bool false)], args := [d] }
  | _ => none }
def FnExactIsDemandsWrongFalsely : Prop := fnExactIsDemandsRow.holds Try.pinned (OpenSpec.ofChange fnExactIsDemandsWrong)

/-- 'laws.FnExactTotalOf': WHATEVER THE INPUT: true; the input reads as it did. -/
def fnExactTotalOfSpec : ChangeSpec := { name := "fnExactTotalOf", fn := fun _ => fun
  | [d] => { results := [.lit (.bool true)], args := [d] }
  | _ => none }
def fnExactTotalOfRow : OpenClaim := { program := "ythlcmcpfpblmaaa", sum := "4a9c31bbe7ca90b496c9f8980bc3a360d8986ed8de67421baf04ff485206809e", func := "loop.example/g03017/laws.FnExactTotalOf", spec := "fnExactTotalOf", unfollowed := true, recurses := true, apart := false }
def FnExactTotalOfSaid : Prop := fnExactTotalOfRow.holds Try.pinned (OpenSpec.ofChange fnExactTotalOfSpec)

/-- ITS FALSE NEIGHBOUR: 'it returns false'. Refute it at one input. -/
def fnExactTotalOfWrong : ChangeSpec := { name := "fnExactTotalOf", fn := fun _ => fun
  | [d] => { results := [.lit (.bool false)], args := [d] }
  | _ => none }
def FnExactTotalOfWrongFalsely : Prop := fnExactTotalOfRow.holds Try.pinned (OpenSpec.ofChange fnExactTotalOfWrong)

/-- 'laws.FnExactCutAt': WHATEVER THE INPUT: true; the input reads as it did. -/
def fnExactCutAtSpec : ChangeSpec := { name := "fnExactCutAt", fn := fun _ => fun
  | [d1, d2] => { results := [.lit (.bool true)], args := [d1, d2] }
  | _ => none }
def fnExactCutAtRow : OpenClaim := { program := "ythlcmcpfpblmaaa", sum := "4a9c31bbe7ca90b496c9f8980bc3a360d8986ed8de67421baf04ff485206809e", func := "loop.example/g03017/laws.FnExactCutAt", spec := "fnExactCutAt", apart := false }
def FnExactCutAtSaid : Prop := fnExactCutAtRow.holds Try.pinned (OpenSpec.ofChange fnExactCutAtSpec)

/-- ITS FALSE NEIGHBOUR: 'it returns false'. Refute it at one input. -/
def fnExactCutAtWrong : ChangeSpec := { name := "fnExactCutAt", fn := fun _ => fun
  | [d1, d2] => { results := [.lit (.bool false)], args := [d1, d2] }
  | _ => none }
def FnExactCutAtWrongFalsely : Prop := fnExactCutAtRow.holds Try.pinned (OpenSpec.ofChange fnExactCutAtWrong)

/-- 'laws.FnExactLevelFor': WHATEVER THE INPUT: true; the input reads as it did. -/
def fnExactLevelForSpec : ChangeSpec := { name := "fnExactLevelFor", fn := fun _ => fun
  | [d1, d2] => { results := [.lit (.bool true)], args := [d1, d2] }
  | _ => none }
def fnExactLevelForRow : OpenClaim := { program := "ythlcmcpfpblmaaa", sum := "4a9c31bbe7ca90b496c9f8980bc3a360d8986ed8de67421baf04ff485206809e", func := "loop.example/g03017/laws.FnExactLevelFor", spec := "fnExactLevelFor", unfollowed := true, recurses := true, apart := false }
def FnExactLevelForSaid : Prop := fnExactLevelForRow.holds Try.pinned (OpenSpec.ofChange fnExactLevelForSpec)

/-- ITS FALSE NEIGHBOUR: 'it returns false'. Refute it at one input. -/
def fnExactLevelForWrong : ChangeSpec := { name := "fnExactLevelFor", fn := fun _ => fun
  | [d1, d2] => { results := [.lit (.bool false)], args := [d1, d2] }
  | _ => none }
def FnExactLevelForWrongFalsely : Prop := fnExactLevelForRow.holds Try.pinned (OpenSpec.ofChange fnExactLevelForWrong)

/-- 'laws.FnExactShareOut': WHATEVER THE INPUT: true; the input reads as it did. -/
def fnExactShareOutSpec : ChangeSpec := { name := "fnExactShareOut", fn := fun _ => fun
  | [d1, d2] => { results := [.lit (.bool true)], args := [d1, d2] }
  | _ => none }
def fnExactShareOutRow : OpenClaim := { program := "ythlcmcpfpblmaaa", sum := "4a9c31bbe7ca90b496c9f8980bc3a360d8986ed8de67421baf04ff485206809e", func := "loop.example/g03017/laws.FnExactShareOut", spec := "fnExactShareOut", unfollowed := true, recurses := true, apart := false }
def FnExactShareOutSaid : Prop := fnExactShareOutRow.holds Try.pinned (OpenSpec.ofChange fnExactShareOutSpec)

/-- ITS FALSE NEIGHBOUR: 'it returns false'. Refute it at one input. -/
def fnExactShareOutWrong : ChangeSpec := { name := "fnExactShareOut", fn := fun _ => fun
  | [d1, d2] => { results := [.lit (.bool false)], args := [d1, d2] }
  | _ => none }
def FnExactShareOutWrongFalsely : Prop := fnExactShareOutRow.holds Try.pinned (OpenSpec.ofChange fnExactShareOutWrong)

/-- 'laws.FnExactShareInTurn': WHATEVER THE INPUT: true; the input reads as it did. -/
def fnExactShareInTurnSpec : ChangeSpec := { name := "fnExactShareInTurn", fn := fun _ => fun
  | [d1, d2] => { results := [.lit (.bool true)], args := [d1, d2] }
  | _ => none }
def fnExactShareInTurnRow : OpenClaim := { program := "ythlcmcpfpblmaaa", sum := "4a9c31bbe7ca90b496c9f8980bc3a360d8986ed8de67421baf04ff485206809e", func := "loop.example/g03017/laws.FnExactShareInTurn", spec := "fnExactShareInTurn", apart := false }
def FnExactShareInTurnSaid : Prop := fnExactShareInTurnRow.holds Try.pinned (OpenSpec.ofChange fnExactShareInTurnSpec)

/-- ITS FALSE NEIGHBOUR: 'it returns false'. Refute it at one input. -/
def fnExactShareInTurnWrong : ChangeSpec := { name := "fnExactShareInTurn", fn := fun _ => fun
  | [d1, d2] => { results := [.lit (.bool false)], args := [d1, d2] }
  | _ => none }
def FnExactShareInTurnWrongFalsely : Prop := fnExactShareInTurnRow.holds Try.pinned (OpenSpec.ofChange fnExactShareInTurnWrong)

/-- 'laws.FnExactIsFair': WHATEVER THE INPUT: true; the input reads as it did. -/
def fnExactIsFairSpec : ChangeSpec := { name := "fnExactIsFair", fn := fun _ => fun
  | [d1, d2, d3] => { results := [.lit (.bool true)], args := [d1, d2, d3] }
  | _ => none }
def fnExactIsFairRow : OpenClaim := { program := "ythlcmcpfpblmaaa", sum := "4a9c31bbe7ca90b496c9f8980bc3a360d8986ed8de67421baf04ff485206809e", func := "loop.example/g03017/laws.FnExactIsFair", spec := "fnExactIsFair", unfollowed := true, recurses := true, apart := false }
def FnExactIsFairSaid : Prop := fnExactIsFairRow.holds Try.pinned (OpenSpec.ofChange fnExactIsFairSpec)

/-- ITS FALSE NEIGHBOUR: 'it returns false'. Refute it at one input. -/
def fnExactIsFairWrong : ChangeSpec := { name := "fnExactIsFair", fn := fun _ => fun
  | [d1, d2, d3] => { results := [.lit (.bool false)], args := [d1, d2, d3] }
  | _ => none }
def FnExactIsFairWrongFalsely : Prop := fnExactIsFairRow.holds Try.pinned (OpenSpec.ofChange fnExactIsFairWrong)

/-- 'laws.FnExactLackOf': WHATEVER THE INPUT: true; the input reads as it did. -/
def fnExactLackOfSpec : ChangeSpec := { name := "fnExactLackOf", fn := fun _ => fun
  | [d1, d2] => { results := [.lit (.bool true)], args := [d1, d2] }
  | _ => none }
def fnExactLackOfRow : OpenClaim := { program := "ythlcmcpfpblmaaa", sum := "4a9c31bbe7ca90b496c9f8980bc3a360d8986ed8de67421baf04ff485206809e", func := "loop.example/g03017/laws.FnExactLackOf", spec := "fnExactLackOf", unfollowed := true, recurses := true, apart := false }
def FnExactLackOfSaid : Prop := fnExactLackOfRow.holds Try.pinned (OpenSpec.ofChange fnExactLackOfSpec)

/-- ITS FALSE NEIGHBOUR: 'it returns false'. Refute it at one input. -/
def fnExactLackOfWrong : ChangeSpec := { name := "fnExactLackOf", fn := fun _ => fun
  | [d1, d2] => { results := [.lit (.bool false)], args := [d1, d2] }
  | _ => none }
def FnExactLackOfWrongFalsely : Prop := fnExactLackOfRow.holds Try.pinned (OpenSpec.ofChange fnExactLackOfWrong)

/-- 'laws.FnShares': WHATEVER THE INPUT: true; the input reads as it did. -/
def fnSharesSpec : ChangeSpec := { name := "fnShares", fn := fun _ => fun
  | [d] => { results := [.lit (.bool true)], args := [d] }
  | _ => none }
def fnSharesRow : OpenClaim := { program := "ythlcmcpfpblmaaa", sum := "4a9c31bbe7ca90b496c9f8980bc3a360d8986ed8de67421baf04ff485206809e", func := "loop.example/g03017/laws.FnShares", spec := "fnShares", unfollowed := true, recurses := true, apart := false }
def FnSharesSaid : Prop := fnSharesRow.holds Try.pinned (OpenSpec.ofChange fnSharesSpec)

/-- ITS FALSE NEIGHBOUR: 'it returns false'. Refute it at one input. -/
def fnSharesWrong : ChangeSpec := { name := "fnShares", fn := fun _ => fun
  | [d] => { results := [.lit (.bool false)], args := [d] }
  | _ => none }
def FnSharesWrongFalsely : Prop := fnSharesRow.holds Try.pinned (OpenSpec.ofChange fnSharesWrong)

/-- 'laws.FnFairAlike': WHATEVER THE INPUT: true; the input reads as it did. -/
def fnFairAlikeSpec : ChangeSpec := { name := "fnFairAlike", fn := fun _ => fun
  | [d] => { results := [.lit (.bool true)], args := [d] }
  | _ => none }
def fnFairAlikeRow : OpenClaim := { program := "ythlcmcpfpblmaaa", sum := "4a9c31bbe7ca90b496c9f8980bc3a360d8986ed8de67421baf04ff485206809e", func := "loop.example/g03017/laws.FnFairAlike", spec := "fnFairAlike", unfollowed := true, recurses := true, apart := false }
def FnFairAlikeSaid : Prop := fnFairAlikeRow.holds Try.pinned (OpenSpec.ofChange fnFairAlikeSpec)

/-- ITS FALSE NEIGHBOUR: 'it returns false'. Refute it at one input. -/
def fnFairAlikeWrong : ChangeSpec := { name := "fnFairAlike", fn := fun _ => fun
  | [d] => { results := [.lit (.bool false)], args := [d] }
  | _ => none }
def FnFairAlikeWrongFalsely : Prop := fnFairAlikeRow.holds Try.pinned (OpenSpec.ofChange fnFairAlikeWrong)

/-- 'laws.FnMoreWater': WHATEVER THE INPUT: true; the input reads as it did. -/
def fnMoreWaterSpec : ChangeSpec := { name := "fnMoreWater", fn := fun _ => fun
  | [d] => { results := [.lit (.bool true)], args := [d] }
  | _ => none }
def fnMoreWaterRow : OpenClaim := { program := "ythlcmcpfpblmaaa", sum := "4a9c31bbe7ca90b496c9f8980bc3a360d8986ed8de67421baf04ff485206809e", func := "loop.example/g03017/laws.FnMoreWater", spec := "fnMoreWater", unfollowed := true, recurses := true, apart := false }
def FnMoreWaterSaid : Prop := fnMoreWaterRow.holds Try.pinned (OpenSpec.ofChange fnMoreWaterSpec)

/-- ITS FALSE NEIGHBOUR: 'it returns false'. Refute it at one input. -/
def fnMoreWaterWrong : ChangeSpec := { name := "fnMoreWater", fn := fun _ => fun
  | [d] => { results := [.lit (.bool false)], args := [d] }
  | _ => none }
def FnMoreWaterWrongFalsely : Prop := fnMoreWaterRow.holds Try.pinned (OpenSpec.ofChange fnMoreWaterWrong)

/-- 'laws.FnInTurn': WHATEVER THE INPUT: true; the input reads as it did. -/
def fnInTurnSpec : ChangeSpec := { name := "fnInTurn", fn := fun _ => fun
  | [d] => { results := [.lit (.bool true)], args := [d] }
  | _ => none }
def fnInTurnRow : OpenClaim := { program := "ythlcmcpfpblmaaa", sum := "4a9c31bbe7ca90b496c9f8980bc3a360d8986ed8de67421baf04ff485206809e", func := "loop.example/g03017/laws.FnInTurn", spec := "fnInTurn", unfollowed := true, recurses := true, apart := false }
def FnInTurnSaid : Prop := fnInTurnRow.holds Try.pinned (OpenSpec.ofChange fnInTurnSpec)

/-- ITS FALSE NEIGHBOUR: 'it returns false'. Refute it at one input. -/
def fnInTurnWrong : ChangeSpec := { name := "fnInTurn", fn := fun _ => fun
  | [d] => { results := [.lit (.bool false)], args := [d] }
  | _ => none }
def FnInTurnWrongFalsely : Prop := fnInTurnRow.holds Try.pinned (OpenSpec.ofChange fnInTurnWrong)

/- THE SECOND FORM. 'bulk': how many values and letters a reading holds, each counted each time it is reached (what is shared counts as often as it is met; a slice's spare places count too). A statement '..UptoSaid' is the law's where the arguments, and the package variables that the reading takes, are together of bulk at most 1048576: NARROWER than '..Said'. Prove '..Said' where nothing that the law and all that it calls make is longer than what came in: it says more and counts as full. Else prove '..UptoSaid'. A law counts once. -/
mutual
def uptoBulk {H : Type} : DataW H → Nat
  | .lit (.string bytes) => bytes.length + 1
  | .lit _ => 1
  | .nil => 1
  | .ptr d => uptoBulk d + 1
  | .slice elems spare => uptoBulkAll elems + uptoBulkAll spare + 1
  | .agg parts => uptoBulkAll parts + 1
  | .iface _ d => uptoBulk d + 1
  | .map entries => uptoBulkEntries entries + 1
  | .held _ => 1
def uptoBulkAll {H : Type} : List (DataW H) → Nat
  | [] => 0
  | d :: r => uptoBulk d + uptoBulkAll r
def uptoBulkEntries {H : Type} : List (Lit × DataW H) → Nat
  | [] => 0
  | x :: r => uptoBulkEntry x + uptoBulkEntries r
def uptoBulkEntry {H : Type} : Lit × DataW H → Nat
  | (.string bytes, d) => bytes.length + uptoBulk d + 1
  | (_, d) => uptoBulk d + 1
 end
def uptoSmall : (H : Type) → List (DataW H) → Bool := fun _ ds => decide (uptoBulkAll ds ≤ 1048576)
def OpenSpec.upto (s : _root_.Go.ChangeSpec) : _root_.Go.OpenSpec := { _root_.Go.OpenSpec.ofChange s with cond := some uptoSmall }

/-- 'laws.FnExactIsDemands', WHERE WHAT IT READS IS OF BULK AT MOST 1048576: true; the input reads as it did. -/
def fnExactIsDemandsUptoRow : OpenClaim := { program := "ythlcmcpfpblmaaa", sum := "4a9c31bbe7ca90b496c9f8980bc3a360d8986ed8de67421baf04ff485206809e", func := "loop.example/g03017/laws.FnExactIsDemands", spec := "fnExactIsDemands", apart := false, narrowed := true }
def FnExactIsDemandsUptoSaid : Prop := fnExactIsDemandsUptoRow.holds Try.pinned (OpenSpec.upto fnExactIsDemandsSpec)

/-- 'laws.FnExactTotalOf', WHERE WHAT IT READS IS OF BULK AT MOST 1048576: true; the input reads as it did. -/
def fnExactTotalOfUptoRow : OpenClaim := { program := "ythlcmcpfpblmaaa", sum := "4a9c31bbe7ca90b496c9f8980bc3a360d8986ed8de67421baf04ff485206809e", func := "loop.example/g03017/laws.FnExactTotalOf", spec := "fnExactTotalOf", unfollowed := true, recurses := true, apart := false, narrowed := true }
def FnExactTotalOfUptoSaid : Prop := fnExactTotalOfUptoRow.holds Try.pinned (OpenSpec.upto fnExactTotalOfSpec)

/-- 'laws.FnExactCutAt', WHERE WHAT IT READS IS OF BULK AT MOST 1048576: true; the input reads as it did. -/
def fnExactCutAtUptoRow : OpenClaim := { program := "ythlcmcpfpblmaaa", sum := "4a9c31bbe7ca90b496c9f8980bc3a360d8986ed8de67421baf04ff485206809e", func := "loop.example/g03017/laws.FnExactCutAt", spec := "fnExactCutAt", apart := false, narrowed := true }
def FnExactCutAtUptoSaid : Prop := fnExactCutAtUptoRow.holds Try.pinned (OpenSpec.upto fnExactCutAtSpec)

/-- 'laws.FnExactLevelFor', WHERE WHAT IT READS IS OF BULK AT MOST 1048576: true; the input reads as it did. -/
def fnExactLevelForUptoRow : OpenClaim := { program := "ythlcmcpfpblmaaa", sum := "4a9c31bbe7ca90b496c9f8980bc3a360d8986ed8de67421baf04ff485206809e", func := "loop.example/g03017/laws.FnExactLevelFor", spec := "fnExactLevelFor", unfollowed := true, recurses := true, apart := false, narrowed := true }
def FnExactLevelForUptoSaid : Prop := fnExactLevelForUptoRow.holds Try.pinned (OpenSpec.upto fnExactLevelForSpec)

/-- 'laws.FnExactShareOut', WHERE WHAT IT READS IS OF BULK AT MOST 1048576: true; the input reads as it did. -/
def fnExactShareOutUptoRow : OpenClaim := { program := "ythlcmcpfpblmaaa", sum := "4a9c31bbe7ca90b496c9f8980bc3a360d8986ed8de67421baf04ff485206809e", func := "loop.example/g03017/laws.FnExactShareOut", spec := "fnExactShareOut", unfollowed := true, recurses := true, apart := false, narrowed := true }
def FnExactShareOutUptoSaid : Prop := fnExactShareOutUptoRow.holds Try.pinned (OpenSpec.upto fnExactShareOutSpec)

/-- 'laws.FnExactShareInTurn', WHERE WHAT IT READS IS OF BULK AT MOST 1048576: true; the input reads as it did. -/
def fnExactShareInTurnUptoRow : OpenClaim := { program := "ythlcmcpfpblmaaa", sum := "4a9c31bbe7ca90b496c9f8980bc3a360d8986ed8de67421baf04ff485206809e", func := "loop.example/g03017/laws.FnExactShareInTurn", spec := "fnExactShareInTurn", apart := false, narrowed := true }
def FnExactShareInTurnUptoSaid : Prop := fnExactShareInTurnUptoRow.holds Try.pinned (OpenSpec.upto fnExactShareInTurnSpec)

/-- 'laws.FnExactIsFair', WHERE WHAT IT READS IS OF BULK AT MOST 1048576: true; the input reads as it did. -/
def fnExactIsFairUptoRow : OpenClaim := { program := "ythlcmcpfpblmaaa", sum := "4a9c31bbe7ca90b496c9f8980bc3a360d8986ed8de67421baf04ff485206809e", func := "loop.example/g03017/laws.FnExactIsFair", spec := "fnExactIsFair", unfollowed := true, recurses := true, apart := false, narrowed := true }
def FnExactIsFairUptoSaid : Prop := fnExactIsFairUptoRow.holds Try.pinned (OpenSpec.upto fnExactIsFairSpec)

/-- 'laws.FnExactLackOf', WHERE WHAT IT READS IS OF BULK AT MOST 1048576: true; the input reads as it did. -/
def fnExactLackOfUptoRow : OpenClaim := { program := "ythlcmcpfpblmaaa", sum := "4a9c31bbe7ca90b496c9f8980bc3a360d8986ed8de67421baf04ff485206809e", func := "loop.example/g03017/laws.FnExactLackOf", spec := "fnExactLackOf", unfollowed := true, recurses := true, apart := false, narrowed := true }
def FnExactLackOfUptoSaid : Prop := fnExactLackOfUptoRow.holds Try.pinned (OpenSpec.upto fnExactLackOfSpec)

/-- 'laws.FnShares', WHERE WHAT IT READS IS OF BULK AT MOST 1048576: true; the input reads as it did. -/
def fnSharesUptoRow : OpenClaim := { program := "ythlcmcpfpblmaaa", sum := "4a9c31bbe7ca90b496c9f8980bc3a360d8986ed8de67421baf04ff485206809e", func := "loop.example/g03017/laws.FnShares", spec := "fnShares", unfollowed := true, recurses := true, apart := false, narrowed := true }
def FnSharesUptoSaid : Prop := fnSharesUptoRow.holds Try.pinned (OpenSpec.upto fnSharesSpec)

/-- 'laws.FnFairAlike', WHERE WHAT IT READS IS OF BULK AT MOST 1048576: true; the input reads as it did. -/
def fnFairAlikeUptoRow : OpenClaim := { program := "ythlcmcpfpblmaaa", sum := "4a9c31bbe7ca90b496c9f8980bc3a360d8986ed8de67421baf04ff485206809e", func := "loop.example/g03017/laws.FnFairAlike", spec := "fnFairAlike", unfollowed := true, recurses := true, apart := false, narrowed := true }
def FnFairAlikeUptoSaid : Prop := fnFairAlikeUptoRow.holds Try.pinned (OpenSpec.upto fnFairAlikeSpec)

/-- 'laws.FnMoreWater', WHERE WHAT IT READS IS OF BULK AT MOST 1048576: true; the input reads as it did. -/
def fnMoreWaterUptoRow : OpenClaim := { program := "ythlcmcpfpblmaaa", sum := "4a9c31bbe7ca90b496c9f8980bc3a360d8986ed8de67421baf04ff485206809e", func := "loop.example/g03017/laws.FnMoreWater", spec := "fnMoreWater", unfollowed := true, recurses := true, apart := false, narrowed := true }
def FnMoreWaterUptoSaid : Prop := fnMoreWaterUptoRow.holds Try.pinned (OpenSpec.upto fnMoreWaterSpec)

/-- 'laws.FnInTurn', WHERE WHAT IT READS IS OF BULK AT MOST 1048576: true; the input reads as it did. -/
def fnInTurnUptoRow : OpenClaim := { program := "ythlcmcpfpblmaaa", sum := "4a9c31bbe7ca90b496c9f8980bc3a360d8986ed8de67421baf04ff485206809e", func := "loop.example/g03017/laws.FnInTurn", spec := "fnInTurn", unfollowed := true, recurses := true, apart := false, narrowed := true }
def FnInTurnUptoSaid : Prop := fnInTurnUptoRow.holds Try.pinned (OpenSpec.upto fnInTurnSpec)

end Rows
end Go.Proofs.Ythlcmcpfpblmaaa
