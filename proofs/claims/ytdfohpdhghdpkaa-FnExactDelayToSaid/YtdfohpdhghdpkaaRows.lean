/-
  No cell of these rows narrows 'for every input' (looked for: loops, veiled, ifaces, maps, wideKeys, modest, calm, conditions, laid).
  DERIVED. THE GIVEN ROWS OF THIS SEAT. 11 by the template 'for every input the law returns true; each argument reads behind the call as it read before'; 0 by the template 'total and deterministic' (their statements: YtdfohpdhghdpkaaTotals.lean).
  GIVEN WITH THE SEED: the statements are not yours to turn. If you find one false, say at which input.
  Laid BY PROGRAM, IN A SANDBOX (cutbox-rows.mjs): the forced cells as the released guide's own fill.sh prints them over the translation c5b183934f165fb2… (all of the seat's roots in one cut). By AI agents, Wed Nov 11 2026. No macro, syntax, notation, axiom, sorry.
-/
import Derived.Test.YtdfohpdhghdpkaaChecked
import GoSem.Claim
import GoSem.ClaimJoined
import GoSem.ClaimMapViews
import Derived.JoinedTies
import Derived.KernelRfl
namespace Go.Proofs.Ytdfohpdhghdpkaa
/- THE CELL 'sum', in the pinned program and in every row, IS THE sha256 OF THE DUMP (.gsa) THAT YtdfohpdhghdpkaaProg.lean LOADS. Nothing in Lean hashes anything: it is a label: what it is worth is what the hold of that sum in a sandbox is worth. -/
noncomputable def Try.pinned : Pinned := { name := "ytdfohpdhghdpkaa", sum := "c5b183934f165fb2c30b9712048677f2ce7f3569ce0f8375573a97076885abd8", checked := Try.checked }
namespace Rows
def none {H : Type} : Left H := { results := [], args := [] }

/-- 'laws.FnHydraulics': WHATEVER THE INPUT: true; the input reads as it did. -/
def fnHydraulicsSpec : ChangeSpec := { name := "fnHydraulics", fn := fun _ => fun
  | [d1, d2] => { results := [.lit (.bool true)], args := [d1, d2] }
  | _ => none }
def fnHydraulicsRow : OpenClaim := { program := "ytdfohpdhghdpkaa", sum := "c5b183934f165fb2c30b9712048677f2ce7f3569ce0f8375573a97076885abd8", func := "loop.example/g01011/laws.FnHydraulics", spec := "fnHydraulics", unfollowed := true, recurses := true, apart := false }
def FnHydraulicsSaid : Prop := fnHydraulicsRow.holds Try.pinned (OpenSpec.ofChange fnHydraulicsSpec)

/-- ITS FALSE NEIGHBOUR: 'it returns false'. Refute it at one input. -/
def fnHydraulicsWrong : ChangeSpec := { name := "fnHydraulics", fn := fun _ => fun
  | [d1, d2] => { results := [.lit (.bool false)], args := [d1, d2] }
  | _ => none }
def FnHydraulicsWrongFalsely : Prop := fnHydraulicsRow.holds Try.pinned (OpenSpec.ofChange fnHydraulicsWrong)

/-- 'laws.FnExactTreeFlows': WHATEVER THE INPUT: true; the input reads as it did. -/
def fnExactTreeFlowsSpec : ChangeSpec := { name := "fnExactTreeFlows", fn := fun _ => fun
  | [d1, d2, d3] => { results := [.lit (.bool true)], args := [d1, d2, d3] }
  | _ => none }
def fnExactTreeFlowsRow : OpenClaim := { program := "ytdfohpdhghdpkaa", sum := "c5b183934f165fb2c30b9712048677f2ce7f3569ce0f8375573a97076885abd8", func := "loop.example/g01011/laws.FnExactTreeFlows", spec := "fnExactTreeFlows", unfollowed := true, recurses := true, apart := false }
def FnExactTreeFlowsSaid : Prop := fnExactTreeFlowsRow.holds Try.pinned (OpenSpec.ofChange fnExactTreeFlowsSpec)

/-- ITS FALSE NEIGHBOUR: 'it returns false'. Refute it at one input. -/
def fnExactTreeFlowsWrong : ChangeSpec := { name := "fnExactTreeFlows", fn := fun _ => fun
  | [d1, d2, d3] => { results := [.lit (.bool false)], args := [d1, d2, d3] }
  | _ => none }
def FnExactTreeFlowsWrongFalsely : Prop := fnExactTreeFlowsRow.holds Try.pinned (OpenSpec.ofChange fnExactTreeFlowsWrong)

/-- 'laws.FnExactBalanceAt': WHATEVER THE INPUT: true; the input reads as it did. -/
def fnExactBalanceAtSpec : ChangeSpec := { name := "fnExactBalanceAt", fn := fun _ => fun
  | [d1, d2, d3] => { results := [.lit (.bool true)], args := [d1, d2, d3] }
  | _ => none }
def fnExactBalanceAtRow : OpenClaim := { program := "ytdfohpdhghdpkaa", sum := "c5b183934f165fb2c30b9712048677f2ce7f3569ce0f8375573a97076885abd8", func := "loop.example/g01011/laws.FnExactBalanceAt", spec := "fnExactBalanceAt", unfollowed := true, recurses := true, apart := false }
def FnExactBalanceAtSaid : Prop := fnExactBalanceAtRow.holds Try.pinned (OpenSpec.ofChange fnExactBalanceAtSpec)

/-- ITS FALSE NEIGHBOUR: 'it returns false'. Refute it at one input. -/
def fnExactBalanceAtWrong : ChangeSpec := { name := "fnExactBalanceAt", fn := fun _ => fun
  | [d1, d2, d3] => { results := [.lit (.bool false)], args := [d1, d2, d3] }
  | _ => none }
def FnExactBalanceAtWrongFalsely : Prop := fnExactBalanceAtRow.holds Try.pinned (OpenSpec.ofChange fnExactBalanceAtWrong)

/-- 'laws.FnExactPressuresOf': WHATEVER THE INPUT: true; the input reads as it did. -/
def fnExactPressuresOfSpec : ChangeSpec := { name := "fnExactPressuresOf", fn := fun _ => fun
  | [d1, d2, d3, d4] => { results := [.lit (.bool true)], args := [d1, d2, d3, d4] }
  | _ => none }
def fnExactPressuresOfRow : OpenClaim := { program := "ytdfohpdhghdpkaa", sum := "c5b183934f165fb2c30b9712048677f2ce7f3569ce0f8375573a97076885abd8", func := "loop.example/g01011/laws.FnExactPressuresOf", spec := "fnExactPressuresOf", unfollowed := true, recurses := true, apart := false }
def FnExactPressuresOfSaid : Prop := fnExactPressuresOfRow.holds Try.pinned (OpenSpec.ofChange fnExactPressuresOfSpec)

/-- ITS FALSE NEIGHBOUR: 'it returns false'. Refute it at one input. -/
def fnExactPressuresOfWrong : ChangeSpec := { name := "fnExactPressuresOf", fn := fun _ => fun
  | [d1, d2, d3, d4] => { results := [.lit (.bool false)], args := [d1, d2, d3, d4] }
  | _ => none }
def FnExactPressuresOfWrongFalsely : Prop := fnExactPressuresOfRow.holds Try.pinned (OpenSpec.ofChange fnExactPressuresOfWrong)

/-- 'laws.FnExactDifferencesOf': WHATEVER THE INPUT: true; the input reads as it did. -/
def fnExactDifferencesOfSpec : ChangeSpec := { name := "fnExactDifferencesOf", fn := fun _ => fun
  | [d1, d2, d3, d4] => { results := [.lit (.bool true)], args := [d1, d2, d3, d4] }
  | _ => none }
def fnExactDifferencesOfRow : OpenClaim := { program := "ytdfohpdhghdpkaa", sum := "c5b183934f165fb2c30b9712048677f2ce7f3569ce0f8375573a97076885abd8", func := "loop.example/g01011/laws.FnExactDifferencesOf", spec := "fnExactDifferencesOf", unfollowed := true, recurses := true, apart := false }
def FnExactDifferencesOfSaid : Prop := fnExactDifferencesOfRow.holds Try.pinned (OpenSpec.ofChange fnExactDifferencesOfSpec)

/-- ITS FALSE NEIGHBOUR: 'it returns false'. Refute it at one input. -/
def fnExactDifferencesOfWrong : ChangeSpec := { name := "fnExactDifferencesOf", fn := fun _ => fun
  | [d1, d2, d3, d4] => { results := [.lit (.bool false)], args := [d1, d2, d3, d4] }
  | _ => none }
def FnExactDifferencesOfWrongFalsely : Prop := fnExactDifferencesOfRow.holds Try.pinned (OpenSpec.ofChange fnExactDifferencesOfWrong)

/-- 'laws.FnExactLeastHead': WHATEVER THE INPUT: true; the input reads as it did. -/
def fnExactLeastHeadSpec : ChangeSpec := { name := "fnExactLeastHead", fn := fun _ => fun
  | [d1, d2, d3, d4] => { results := [.lit (.bool true)], args := [d1, d2, d3, d4] }
  | _ => none }
def fnExactLeastHeadRow : OpenClaim := { program := "ytdfohpdhghdpkaa", sum := "c5b183934f165fb2c30b9712048677f2ce7f3569ce0f8375573a97076885abd8", func := "loop.example/g01011/laws.FnExactLeastHead", spec := "fnExactLeastHead", unfollowed := true, recurses := true, apart := false }
def FnExactLeastHeadSaid : Prop := fnExactLeastHeadRow.holds Try.pinned (OpenSpec.ofChange fnExactLeastHeadSpec)

/-- ITS FALSE NEIGHBOUR: 'it returns false'. Refute it at one input. -/
def fnExactLeastHeadWrong : ChangeSpec := { name := "fnExactLeastHead", fn := fun _ => fun
  | [d1, d2, d3, d4] => { results := [.lit (.bool false)], args := [d1, d2, d3, d4] }
  | _ => none }
def FnExactLeastHeadWrongFalsely : Prop := fnExactLeastHeadRow.holds Try.pinned (OpenSpec.ofChange fnExactLeastHeadWrong)

/-- 'laws.FnExactWorstNode': WHATEVER THE INPUT: true; the input reads as it did. -/
def fnExactWorstNodeSpec : ChangeSpec := { name := "fnExactWorstNode", fn := fun _ => fun
  | [d1, d2, d3, d4] => { results := [.lit (.bool true)], args := [d1, d2, d3, d4] }
  | _ => none }
def fnExactWorstNodeRow : OpenClaim := { program := "ytdfohpdhghdpkaa", sum := "c5b183934f165fb2c30b9712048677f2ce7f3569ce0f8375573a97076885abd8", func := "loop.example/g01011/laws.FnExactWorstNode", spec := "fnExactWorstNode", unfollowed := true, recurses := true, apart := false }
def FnExactWorstNodeSaid : Prop := fnExactWorstNodeRow.holds Try.pinned (OpenSpec.ofChange fnExactWorstNodeSpec)

/-- ITS FALSE NEIGHBOUR: 'it returns false'. Refute it at one input. -/
def fnExactWorstNodeWrong : ChangeSpec := { name := "fnExactWorstNode", fn := fun _ => fun
  | [d1, d2, d3, d4] => { results := [.lit (.bool false)], args := [d1, d2, d3, d4] }
  | _ => none }
def FnExactWorstNodeWrongFalsely : Prop := fnExactWorstNodeRow.holds Try.pinned (OpenSpec.ofChange fnExactWorstNodeWrong)

/-- 'laws.FnExactPumpPower': WHATEVER THE INPUT: true; the input reads as it did. -/
def fnExactPumpPowerSpec : ChangeSpec := { name := "fnExactPumpPower", fn := fun _ => fun
  | [d1, d2] => { results := [.lit (.bool true)], args := [d1, d2] }
  | _ => none }
def fnExactPumpPowerRow : OpenClaim := { program := "ytdfohpdhghdpkaa", sum := "c5b183934f165fb2c30b9712048677f2ce7f3569ce0f8375573a97076885abd8", func := "loop.example/g01011/laws.FnExactPumpPower", spec := "fnExactPumpPower", apart := false }
def FnExactPumpPowerSaid : Prop := fnExactPumpPowerRow.holds Try.pinned (OpenSpec.ofChange fnExactPumpPowerSpec)

/-- ITS FALSE NEIGHBOUR: 'it returns false'. Refute it at one input. -/
def fnExactPumpPowerWrong : ChangeSpec := { name := "fnExactPumpPower", fn := fun _ => fun
  | [d1, d2] => { results := [.lit (.bool false)], args := [d1, d2] }
  | _ => none }
def FnExactPumpPowerWrongFalsely : Prop := fnExactPumpPowerRow.holds Try.pinned (OpenSpec.ofChange fnExactPumpPowerWrong)

/-- 'laws.FnExactDelayTo': WHATEVER THE INPUT: true; the input reads as it did. -/
def fnExactDelayToSpec : ChangeSpec := { name := "fnExactDelayTo", fn := fun _ => fun
  | [d1, d2, d3, d4] => { results := [.lit (.bool true)], args := [d1, d2, d3, d4] }
  | _ => none }
def fnExactDelayToRow : OpenClaim := { program := "ytdfohpdhghdpkaa", sum := "c5b183934f165fb2c30b9712048677f2ce7f3569ce0f8375573a97076885abd8", func := "loop.example/g01011/laws.FnExactDelayTo", spec := "fnExactDelayTo", unfollowed := true, recurses := true, apart := false }
def FnExactDelayToSaid : Prop := fnExactDelayToRow.holds Try.pinned (OpenSpec.ofChange fnExactDelayToSpec)

/-- ITS FALSE NEIGHBOUR: 'it returns false'. Refute it at one input. -/
def fnExactDelayToWrong : ChangeSpec := { name := "fnExactDelayTo", fn := fun _ => fun
  | [d1, d2, d3, d4] => { results := [.lit (.bool false)], args := [d1, d2, d3, d4] }
  | _ => none }
def FnExactDelayToWrongFalsely : Prop := fnExactDelayToRow.holds Try.pinned (OpenSpec.ofChange fnExactDelayToWrong)

/-- 'laws.FnExactNodeTemperatures': WHATEVER THE INPUT: true; the input reads as it did. -/
def fnExactNodeTemperaturesSpec : ChangeSpec := { name := "fnExactNodeTemperatures", fn := fun _ => fun
  | [d1, d2, d3, d4, d5] => { results := [.lit (.bool true)], args := [d1, d2, d3, d4, d5] }
  | _ => none }
def fnExactNodeTemperaturesRow : OpenClaim := { program := "ytdfohpdhghdpkaa", sum := "c5b183934f165fb2c30b9712048677f2ce7f3569ce0f8375573a97076885abd8", func := "loop.example/g01011/laws.FnExactNodeTemperatures", spec := "fnExactNodeTemperatures", unfollowed := true, recurses := true, apart := false }
def FnExactNodeTemperaturesSaid : Prop := fnExactNodeTemperaturesRow.holds Try.pinned (OpenSpec.ofChange fnExactNodeTemperaturesSpec)

/-- ITS FALSE NEIGHBOUR: 'it returns false'. Refute it at one input. -/
def fnExactNodeTemperaturesWrong : ChangeSpec := { name := "fnExactNodeTemperatures", fn := fun _ => fun
  | [d1, d2, d3, d4, d5] => { results := [.lit (.bool false)], args := [d1, d2, d3, d4, d5] }
  | _ => none }
def FnExactNodeTemperaturesWrongFalsely : Prop := fnExactNodeTemperaturesRow.holds Try.pinned (OpenSpec.ofChange fnExactNodeTemperaturesWrong)

/-- 'laws.FnExactMissingHours': WHATEVER THE INPUT: true; the input reads as it did. -/
def fnExactMissingHoursSpec : ChangeSpec := { name := "fnExactMissingHours", fn := fun _ => fun
  | [d1, d2] => { results := [.lit (.bool true)], args := [d1, d2] }
  | _ => none }
def fnExactMissingHoursRow : OpenClaim := { program := "ytdfohpdhghdpkaa", sum := "c5b183934f165fb2c30b9712048677f2ce7f3569ce0f8375573a97076885abd8", func := "loop.example/g01011/laws.FnExactMissingHours", spec := "fnExactMissingHours", unfollowed := true, recurses := true, apart := false }
def FnExactMissingHoursSaid : Prop := fnExactMissingHoursRow.holds Try.pinned (OpenSpec.ofChange fnExactMissingHoursSpec)

/-- ITS FALSE NEIGHBOUR: 'it returns false'. Refute it at one input. -/
def fnExactMissingHoursWrong : ChangeSpec := { name := "fnExactMissingHours", fn := fun _ => fun
  | [d1, d2] => { results := [.lit (.bool false)], args := [d1, d2] }
  | _ => none }
def FnExactMissingHoursWrongFalsely : Prop := fnExactMissingHoursRow.holds Try.pinned (OpenSpec.ofChange fnExactMissingHoursWrong)

/- THE SECOND FORM. 'bulk': how many values and letters a reading holds, each counted each time it is reached (what is shared counts as often as it is met; a slice's spare places count too). A statement '..UptoSaid' is the law's where the arguments, and the package variables that the reading takes, are together of bulk at most 1048576: NARROWER than '..Said'. Prove '..Said' where nothing that the law and all that it calls make is longer than what came in: it says more and counts as full. Else prove '..UptoSaid'. A law counts once. -/
mutual
def uptoBulk {H : Type} : DataW H → Nat
  | .lit (.string bytes) => bytes.length + 1
  | .lit _ => 1
  | .nil => 1
  | .ptr d => uptoBulk d + 1
  | .slice elems spare => uptoBulkAll elems + uptoBulkAll spare + 1
  | .agg parts => uptoBulkAll parts + 1
  | .iface _ d => uptoBulk d + 1
  | .map entries => uptoBulkEntries entries + 1
  | .held _ => 1
def uptoBulkAll {H : Type} : List (DataW H) → Nat
  | [] => 0
  | d :: r => uptoBulk d + uptoBulkAll r
def uptoBulkEntries {H : Type} : List (Lit × DataW H) → Nat
  | [] => 0
  | x :: r => uptoBulkEntry x + uptoBulkEntries r
def uptoBulkEntry {H : Type} : Lit × DataW H → Nat
  | (.string bytes, d) => bytes.length + uptoBulk d + 1
  | (_, d) => uptoBulk d + 1
 end
def uptoSmall : (H : Type) → List (DataW H) → Bool := fun _ ds => decide (uptoBulkAll ds ≤ 1048576)
def OpenSpec.upto (s : _root_.Go.ChangeSpec) : _root_.Go.OpenSpec := { _root_.Go.OpenSpec.ofChange s with cond := some uptoSmall }

/-- 'laws.FnHydraulics', WHERE WHAT IT READS IS OF BULK AT MOST 1048576: true; the input reads as it did. -/
def fnHydraulicsUptoRow : OpenClaim := { program := "ytdfohpdhghdpkaa", sum := "c5b183934f165fb2c30b9712048677f2ce7f3569ce0f8375573a97076885abd8", func := "loop.example/g01011/laws.FnHydraulics", spec := "fnHydraulics", unfollowed := true, recurses := true, apart := false, narrowed := true }
def FnHydraulicsUptoSaid : Prop := fnHydraulicsUptoRow.holds Try.pinned (OpenSpec.upto fnHydraulicsSpec)

/-- 'laws.FnExactTreeFlows', WHERE WHAT IT READS IS OF BULK AT MOST 1048576: true; the input reads as it did. -/
def fnExactTreeFlowsUptoRow : OpenClaim := { program := "ytdfohpdhghdpkaa", sum := "c5b183934f165fb2c30b9712048677f2ce7f3569ce0f8375573a97076885abd8", func := "loop.example/g01011/laws.FnExactTreeFlows", spec := "fnExactTreeFlows", unfollowed := true, recurses := true, apart := false, narrowed := true }
def FnExactTreeFlowsUptoSaid : Prop := fnExactTreeFlowsUptoRow.holds Try.pinned (OpenSpec.upto fnExactTreeFlowsSpec)

/-- 'laws.FnExactBalanceAt', WHERE WHAT IT READS IS OF BULK AT MOST 1048576: true; the input reads as it did. -/
def fnExactBalanceAtUptoRow : OpenClaim := { program := "ytdfohpdhghdpkaa", sum := "c5b183934f165fb2c30b9712048677f2ce7f3569ce0f8375573a97076885abd8", func := "loop.example/g01011/laws.FnExactBalanceAt", spec := "fnExactBalanceAt", unfollowed := true, recurses := true, apart := false, narrowed := true }
def FnExactBalanceAtUptoSaid : Prop := fnExactBalanceAtUptoRow.holds Try.pinned (OpenSpec.upto fnExactBalanceAtSpec)

/-- 'laws.FnExactPressuresOf', WHERE WHAT IT READS IS OF BULK AT MOST 1048576: true; the input reads as it did. -/
def fnExactPressuresOfUptoRow : OpenClaim := { program := "ytdfohpdhghdpkaa", sum := "c5b183934f165fb2c30b9712048677f2ce7f3569ce0f8375573a97076885abd8", func := "loop.example/g01011/laws.FnExactPressuresOf", spec := "fnExactPressuresOf", unfollowed := true, recurses := true, apart := false, narrowed := true }
def FnExactPressuresOfUptoSaid : Prop := fnExactPressuresOfUptoRow.holds Try.pinned (OpenSpec.upto fnExactPressuresOfSpec)

/-- 'laws.FnExactDifferencesOf', WHERE WHAT IT READS IS OF BULK AT MOST 1048576: true; the input reads as it did. -/
def fnExactDifferencesOfUptoRow : OpenClaim := { program := "ytdfohpdhghdpkaa", sum := "c5b183934f165fb2c30b9712048677f2ce7f3569ce0f8375573a97076885abd8", func := "loop.example/g01011/laws.FnExactDifferencesOf", spec := "fnExactDifferencesOf", unfollowed := true, recurses := true, apart := false, narrowed := true }
def FnExactDifferencesOfUptoSaid : Prop := fnExactDifferencesOfUptoRow.holds Try.pinned (OpenSpec.upto fnExactDifferencesOfSpec)

/-- 'laws.FnExactLeastHead', WHERE WHAT IT READS IS OF BULK AT MOST 1048576: true; the input reads as it did. -/
def fnExactLeastHeadUptoRow : OpenClaim := { program := "ytdfohpdhghdpkaa", sum := "c5b183934f165fb2c30b9712048677f2ce7f3569ce0f8375573a97076885abd8", func := "loop.example/g01011/laws.FnExactLeastHead", spec := "fnExactLeastHead", unfollowed := true, recurses := true, apart := false, narrowed := true }
def FnExactLeastHeadUptoSaid : Prop := fnExactLeastHeadUptoRow.holds Try.pinned (OpenSpec.upto fnExactLeastHeadSpec)

/-- 'laws.FnExactWorstNode', WHERE WHAT IT READS IS OF BULK AT MOST 1048576: true; the input reads as it did. -/
def fnExactWorstNodeUptoRow : OpenClaim := { program := "ytdfohpdhghdpkaa", sum := "c5b183934f165fb2c30b9712048677f2ce7f3569ce0f8375573a97076885abd8", func := "loop.example/g01011/laws.FnExactWorstNode", spec := "fnExactWorstNode", unfollowed := true, recurses := true, apart := false, narrowed := true }
def FnExactWorstNodeUptoSaid : Prop := fnExactWorstNodeUptoRow.holds Try.pinned (OpenSpec.upto fnExactWorstNodeSpec)

/-- 'laws.FnExactPumpPower', WHERE WHAT IT READS IS OF BULK AT MOST 1048576: true; the input reads as it did. -/
def fnExactPumpPowerUptoRow : OpenClaim := { program := "ytdfohpdhghdpkaa", sum := "c5b183934f165fb2c30b9712048677f2ce7f3569ce0f8375573a97076885abd8", func := "loop.example/g01011/laws.FnExactPumpPower", spec := "fnExactPumpPower", apart := false, narrowed := true }
def FnExactPumpPowerUptoSaid : Prop := fnExactPumpPowerUptoRow.holds Try.pinned (OpenSpec.upto fnExactPumpPowerSpec)

/-- 'laws.FnExactDelayTo', WHERE WHAT IT READS IS OF BULK AT MOST 1048576: true; the input reads as it did. -/
def fnExactDelayToUptoRow : OpenClaim := { program := "ytdfohpdhghdpkaa", sum := "c5b183934f165fb2c30b9712048677f2ce7f3569ce0f8375573a97076885abd8", func := "loop.example/g01011/laws.FnExactDelayTo", spec := "fnExactDelayTo", unfollowed := true, recurses := true, apart := false, narrowed := true }
def FnExactDelayToUptoSaid : Prop := fnExactDelayToUptoRow.holds Try.pinned (OpenSpec.upto fnExactDelayToSpec)

/-- 'laws.FnExactNodeTemperatures', WHERE WHAT IT READS IS OF BULK AT MOST 1048576: true; the input reads as it did. -/
def fnExactNodeTemperaturesUptoRow : OpenClaim := { program := "ytdfohpdhghdpkaa", sum := "c5b183934f165fb2c30b9712048677f2ce7f3569ce0f8375573a97076885abd8", func := "loop.example/g01011/laws.FnExactNodeTemperatures", spec := "fnExactNodeTemperatures", unfollowed := true, recurses := true, apart := false, narrowed := true }
def FnExactNodeTemperaturesUptoSaid : Prop := fnExactNodeTemperaturesUptoRow.holds Try.pinned (OpenSpec.upto fnExactNodeTemperaturesSpec)

/-- 'laws.FnExactMissingHours', WHERE WHAT IT READS IS OF BULK AT MOST 1048576: true; the input reads as it did. -/
def fnExactMissingHoursUptoRow : OpenClaim := { program := "ytdfohpdhghdpkaa", sum := "c5b183934f165fb2c30b9712048677f2ce7f3569ce0f8375573a97076885abd8", func := "loop.example/g01011/laws.FnExactMissingHours", spec := "fnExactMissingHours", unfollowed := true, recurses := true, apart := false, narrowed := true }
def FnExactMissingHoursUptoSaid : Prop := fnExactMissingHoursUptoRow.holds Try.pinned (OpenSpec.upto fnExactMissingHoursSpec)

end Rows
end Go.Proofs.Ytdfohpdhghdpkaa
