/-
  No cell of these rows narrows 'for every input' (looked for: loops, veiled, ifaces, maps, wideKeys, modest, calm, conditions, laid).
  DERIVED. THE GIVEN ROWS OF THIS SEAT. 10 by the template 'for every input the law returns true; each argument reads behind the call as it read before'; 0 by the template 'total and deterministic' (their statements: YtjabcoanpinpiaaTotals.lean).
  GIVEN WITH THE SEED: the statements are not yours to turn. If you find one false, say at which input.
  Laid BY PROGRAM, IN A SANDBOX (cutbox-rows.mjs): the forced cells as the released guide's own fill.sh prints them over the translation 9db20460f8d1c968… (all of the seat's roots in one cut). By AI agents, Wed Nov 11 2026. No macro, syntax, notation, axiom, sorry.
-/
import Derived.Test.YtjabcoanpinpiaaChecked
import GoSem.Claim
import GoSem.ClaimJoined
import GoSem.ClaimMapViews
import Derived.JoinedTies
import Derived.KernelRfl
namespace Go.Proofs.Ytjabcoanpinpiaa
/- THE CELL 'sum', in the pinned program and in every row, IS THE sha256 OF THE DUMP (.gsa) THAT YtjabcoanpinpiaaProg.lean LOADS. Nothing in Lean hashes anything: it is a label: what it is worth is what the hold of that sum in a sandbox is worth. -/
noncomputable def Try.pinned : Pinned := { name := "ytjabcoanpinpiaa", sum := "9db20460f8d1c968da056e8f7f563a166beb1a6b5a22aa550de59bbf3db562bd", checked := Try.checked }
namespace Rows
def none {H : Type} : Left H := { results := [], args := [] }

/-- 'laws.FnDelays': WHATEVER THE INPUT: true; the input reads as it did. -/
def fnDelaysSpec : ChangeSpec := { name := "fnDelays", fn := fun _ => fun
  | [d1, d2] => { results := [.lit (.bool true)], args := [d1, d2] }
  | _ => none }
def fnDelaysRow : OpenClaim := { program := "ytjabcoanpinpiaa", sum := "9db20460f8d1c968da056e8f7f563a166beb1a6b5a22aa550de59bbf3db562bd", func := "loop.example/g01011/laws.FnDelays", spec := "fnDelays", apart := false }
def FnDelaysSaid : Prop := fnDelaysRow.holds Try.pinned (OpenSpec.ofChange fnDelaysSpec)

/-- ITS FALSE NEIGHBOUR: 'it returns false'. Refute it at one input. -/
def fnDelaysWrong : ChangeSpec := { name := "fnDelays", fn := fun _ => fun
  | [d1, d2] => { results := [.lit (.bool false)], args := [d1, d2] }
  | _ => none }
def FnDelaysWrongFalsely : Prop := fnDelaysRow.holds Try.pinned (OpenSpec.ofChange fnDelaysWrong)

/-- 'laws.FnMixes': WHATEVER THE INPUT: true; the input reads as it did. -/
def fnMixesSpec : ChangeSpec := { name := "fnMixes", fn := fun _ => fun
  | [d1, d2] => { results := [.lit (.bool true)], args := [d1, d2] }
  | _ => none }
def fnMixesRow : OpenClaim := { program := "ytjabcoanpinpiaa", sum := "9db20460f8d1c968da056e8f7f563a166beb1a6b5a22aa550de59bbf3db562bd", func := "loop.example/g01011/laws.FnMixes", spec := "fnMixes", unfollowed := true, recurses := true, apart := false }
def FnMixesSaid : Prop := fnMixesRow.holds Try.pinned (OpenSpec.ofChange fnMixesSpec)

/-- ITS FALSE NEIGHBOUR: 'it returns false'. Refute it at one input. -/
def fnMixesWrong : ChangeSpec := { name := "fnMixes", fn := fun _ => fun
  | [d1, d2] => { results := [.lit (.bool false)], args := [d1, d2] }
  | _ => none }
def FnMixesWrongFalsely : Prop := fnMixesRow.holds Try.pinned (OpenSpec.ofChange fnMixesWrong)

/-- 'laws.FnExactWaterDensity': WHATEVER THE INPUT: true; the input reads as it did. -/
def fnExactWaterDensitySpec : ChangeSpec := { name := "fnExactWaterDensity", fn := fun _ => fun
  | [d] => { results := [.lit (.bool true)], args := [d] }
  | _ => none }
def fnExactWaterDensityRow : OpenClaim := { program := "ytjabcoanpinpiaa", sum := "9db20460f8d1c968da056e8f7f563a166beb1a6b5a22aa550de59bbf3db562bd", func := "loop.example/g01011/laws.FnExactWaterDensity", spec := "fnExactWaterDensity", unfollowed := true, recurses := true, apart := false }
def FnExactWaterDensitySaid : Prop := fnExactWaterDensityRow.holds Try.pinned (OpenSpec.ofChange fnExactWaterDensitySpec)

/-- ITS FALSE NEIGHBOUR: 'it returns false'. Refute it at one input. -/
def fnExactWaterDensityWrong : ChangeSpec := { name := "fnExactWaterDensity", fn := fun _ => fun
  | [d] => { results := [.lit (.bool false)], args := [d] }
  | _ => none }
def FnExactWaterDensityWrongFalsely : Prop := fnExactWaterDensityRow.holds Try.pinned (OpenSpec.ofChange fnExactWaterDensityWrong)

/-- 'laws.FnExactBoilingAt': WHATEVER THE INPUT: true; the input reads as it did. -/
def fnExactBoilingAtSpec : ChangeSpec := { name := "fnExactBoilingAt", fn := fun _ => fun
  | [d] => { results := [.lit (.bool true)], args := [d] }
  | _ => none }
def fnExactBoilingAtRow : OpenClaim := { program := "ytjabcoanpinpiaa", sum := "9db20460f8d1c968da056e8f7f563a166beb1a6b5a22aa550de59bbf3db562bd", func := "loop.example/g01011/laws.FnExactBoilingAt", spec := "fnExactBoilingAt", unfollowed := true, recurses := true, apart := false }
def FnExactBoilingAtSaid : Prop := fnExactBoilingAtRow.holds Try.pinned (OpenSpec.ofChange fnExactBoilingAtSpec)

/-- ITS FALSE NEIGHBOUR: 'it returns false'. Refute it at one input. -/
def fnExactBoilingAtWrong : ChangeSpec := { name := "fnExactBoilingAt", fn := fun _ => fun
  | [d] => { results := [.lit (.bool false)], args := [d] }
  | _ => none }
def FnExactBoilingAtWrongFalsely : Prop := fnExactBoilingAtRow.holds Try.pinned (OpenSpec.ofChange fnExactBoilingAtWrong)

/-- 'laws.FnExactSteamPressure': WHATEVER THE INPUT: true; the input reads as it did. -/
def fnExactSteamPressureSpec : ChangeSpec := { name := "fnExactSteamPressure", fn := fun _ => fun
  | [d] => { results := [.lit (.bool true)], args := [d] }
  | _ => none }
def fnExactSteamPressureRow : OpenClaim := { program := "ytjabcoanpinpiaa", sum := "9db20460f8d1c968da056e8f7f563a166beb1a6b5a22aa550de59bbf3db562bd", func := "loop.example/g01011/laws.FnExactSteamPressure", spec := "fnExactSteamPressure", unfollowed := true, recurses := true, apart := false }
def FnExactSteamPressureSaid : Prop := fnExactSteamPressureRow.holds Try.pinned (OpenSpec.ofChange fnExactSteamPressureSpec)

/-- ITS FALSE NEIGHBOUR: 'it returns false'. Refute it at one input. -/
def fnExactSteamPressureWrong : ChangeSpec := { name := "fnExactSteamPressure", fn := fun _ => fun
  | [d] => { results := [.lit (.bool false)], args := [d] }
  | _ => none }
def FnExactSteamPressureWrongFalsely : Prop := fnExactSteamPressureRow.holds Try.pinned (OpenSpec.ofChange fnExactSteamPressureWrong)

/-- 'laws.FnExactMarginTo': WHATEVER THE INPUT: true; the input reads as it did. -/
def fnExactMarginToSpec : ChangeSpec := { name := "fnExactMarginTo", fn := fun _ => fun
  | [d1, d2] => { results := [.lit (.bool true)], args := [d1, d2] }
  | _ => none }
def fnExactMarginToRow : OpenClaim := { program := "ytjabcoanpinpiaa", sum := "9db20460f8d1c968da056e8f7f563a166beb1a6b5a22aa550de59bbf3db562bd", func := "loop.example/g01011/laws.FnExactMarginTo", spec := "fnExactMarginTo", unfollowed := true, recurses := true, apart := false }
def FnExactMarginToSaid : Prop := fnExactMarginToRow.holds Try.pinned (OpenSpec.ofChange fnExactMarginToSpec)

/-- ITS FALSE NEIGHBOUR: 'it returns false'. Refute it at one input. -/
def fnExactMarginToWrong : ChangeSpec := { name := "fnExactMarginTo", fn := fun _ => fun
  | [d1, d2] => { results := [.lit (.bool false)], args := [d1, d2] }
  | _ => none }
def FnExactMarginToWrongFalsely : Prop := fnExactMarginToRow.holds Try.pinned (OpenSpec.ofChange fnExactMarginToWrong)

/-- 'laws.FnExactHeatPower': WHATEVER THE INPUT: true; the input reads as it did. -/
def fnExactHeatPowerSpec : ChangeSpec := { name := "fnExactHeatPower", fn := fun _ => fun
  | [d1, d2, d3] => { results := [.lit (.bool true)], args := [d1, d2, d3] }
  | _ => none }
def fnExactHeatPowerRow : OpenClaim := { program := "ytjabcoanpinpiaa", sum := "9db20460f8d1c968da056e8f7f563a166beb1a6b5a22aa550de59bbf3db562bd", func := "loop.example/g01011/laws.FnExactHeatPower", spec := "fnExactHeatPower", apart := false }
def FnExactHeatPowerSaid : Prop := fnExactHeatPowerRow.holds Try.pinned (OpenSpec.ofChange fnExactHeatPowerSpec)

/-- ITS FALSE NEIGHBOUR: 'it returns false'. Refute it at one input. -/
def fnExactHeatPowerWrong : ChangeSpec := { name := "fnExactHeatPower", fn := fun _ => fun
  | [d1, d2, d3] => { results := [.lit (.bool false)], args := [d1, d2, d3] }
  | _ => none }
def FnExactHeatPowerWrongFalsely : Prop := fnExactHeatPowerRow.holds Try.pinned (OpenSpec.ofChange fnExactHeatPowerWrong)

/-- 'laws.FnExactFlowForPower': WHATEVER THE INPUT: true; the input reads as it did. -/
def fnExactFlowForPowerSpec : ChangeSpec := { name := "fnExactFlowForPower", fn := fun _ => fun
  | [d1, d2, d3] => { results := [.lit (.bool true)], args := [d1, d2, d3] }
  | _ => none }
def fnExactFlowForPowerRow : OpenClaim := { program := "ytjabcoanpinpiaa", sum := "9db20460f8d1c968da056e8f7f563a166beb1a6b5a22aa550de59bbf3db562bd", func := "loop.example/g01011/laws.FnExactFlowForPower", spec := "fnExactFlowForPower", unfollowed := true, recurses := true, apart := false }
def FnExactFlowForPowerSaid : Prop := fnExactFlowForPowerRow.holds Try.pinned (OpenSpec.ofChange fnExactFlowForPowerSpec)

/-- ITS FALSE NEIGHBOUR: 'it returns false'. Refute it at one input. -/
def fnExactFlowForPowerWrong : ChangeSpec := { name := "fnExactFlowForPower", fn := fun _ => fun
  | [d1, d2, d3] => { results := [.lit (.bool false)], args := [d1, d2, d3] }
  | _ => none }
def FnExactFlowForPowerWrongFalsely : Prop := fnExactFlowForPowerRow.holds Try.pinned (OpenSpec.ofChange fnExactFlowForPowerWrong)

/-- 'laws.FnExactMixWater': WHATEVER THE INPUT: true; the input reads as it did. -/
def fnExactMixWaterSpec : ChangeSpec := { name := "fnExactMixWater", fn := fun _ => fun
  | [d1, d2] => { results := [.lit (.bool true)], args := [d1, d2] }
  | _ => none }
def fnExactMixWaterRow : OpenClaim := { program := "ytjabcoanpinpiaa", sum := "9db20460f8d1c968da056e8f7f563a166beb1a6b5a22aa550de59bbf3db562bd", func := "loop.example/g01011/laws.FnExactMixWater", spec := "fnExactMixWater", apart := false }
def FnExactMixWaterSaid : Prop := fnExactMixWaterRow.holds Try.pinned (OpenSpec.ofChange fnExactMixWaterSpec)

/-- ITS FALSE NEIGHBOUR: 'it returns false'. Refute it at one input. -/
def fnExactMixWaterWrong : ChangeSpec := { name := "fnExactMixWater", fn := fun _ => fun
  | [d1, d2] => { results := [.lit (.bool false)], args := [d1, d2] }
  | _ => none }
def FnExactMixWaterWrongFalsely : Prop := fnExactMixWaterRow.holds Try.pinned (OpenSpec.ofChange fnExactMixWaterWrong)

/-- 'laws.FnExactExpandedVolume': WHATEVER THE INPUT: true; the input reads as it did. -/
def fnExactExpandedVolumeSpec : ChangeSpec := { name := "fnExactExpandedVolume", fn := fun _ => fun
  | [d1, d2, d3] => { results := [.lit (.bool true)], args := [d1, d2, d3] }
  | _ => none }
def fnExactExpandedVolumeRow : OpenClaim := { program := "ytjabcoanpinpiaa", sum := "9db20460f8d1c968da056e8f7f563a166beb1a6b5a22aa550de59bbf3db562bd", func := "loop.example/g01011/laws.FnExactExpandedVolume", spec := "fnExactExpandedVolume", unfollowed := true, recurses := true, apart := false }
def FnExactExpandedVolumeSaid : Prop := fnExactExpandedVolumeRow.holds Try.pinned (OpenSpec.ofChange fnExactExpandedVolumeSpec)

/-- ITS FALSE NEIGHBOUR: 'it returns false'. Refute it at one input. -/
def fnExactExpandedVolumeWrong : ChangeSpec := { name := "fnExactExpandedVolume", fn := fun _ => fun
  | [d1, d2, d3] => { results := [.lit (.bool false)], args := [d1, d2, d3] }
  | _ => none }
def FnExactExpandedVolumeWrongFalsely : Prop := fnExactExpandedVolumeRow.holds Try.pinned (OpenSpec.ofChange fnExactExpandedVolumeWrong)

/- THE SECOND FORM. 'bulk': how many values and letters a reading holds, each counted each time it is reached (what is shared counts as often as it is met; a slice's spare places count too). A statement '..UptoSaid' is the law's where the arguments, and the package variables that the reading takes, are together of bulk at most 1048576: NARROWER than '..Said'. Prove '..Said' where nothing that the law and all that it calls make is longer than what came in: it says more and counts as full. Else prove '..UptoSaid'. A law counts once. -/
mutual
def uptoBulk {H : Type} : DataW H → Nat
  | .lit (.string bytes) => bytes.length + 1
  | .lit _ => 1
  | .nil => 1
  | .ptr d => uptoBulk d + 1
  | .slice elems spare => uptoBulkAll elems + uptoBulkAll spare + 1
  | .agg parts => uptoBulkAll parts + 1
  | .iface _ d => uptoBulk d + 1
  | .map entries => uptoBulkEntries entries + 1
  | .held _ => 1
def uptoBulkAll {H : Type} : List (DataW H) → Nat
  | [] => 0
  | d :: r => uptoBulk d + uptoBulkAll r
def uptoBulkEntries {H : Type} : List (Lit × DataW H) → Nat
  | [] => 0
  | x :: r => uptoBulkEntry x + uptoBulkEntries r
def uptoBulkEntry {H : Type} : Lit × DataW H → Nat
  | (.string bytes, d) => bytes.length + uptoBulk d + 1
  | (_, d) => uptoBulk d + 1
 end
def uptoSmall : (H : Type) → List (DataW H) → Bool := fun _ ds => decide (uptoBulkAll ds ≤ 1048576)
def OpenSpec.upto (s : _root_.Go.ChangeSpec) : _root_.Go.OpenSpec := { _root_.Go.OpenSpec.ofChange s with cond := some uptoSmall }

/-- 'laws.FnDelays', WHERE WHAT IT READS IS OF BULK AT MOST 1048576: true; the input reads as it did. -/
def fnDelaysUptoRow : OpenClaim := { program := "ytjabcoanpinpiaa", sum := "9db20460f8d1c968da056e8f7f563a166beb1a6b5a22aa550de59bbf3db562bd", func := "loop.example/g01011/laws.FnDelays", spec := "fnDelays", apart := false, narrowed := true }
def FnDelaysUptoSaid : Prop := fnDelaysUptoRow.holds Try.pinned (OpenSpec.upto fnDelaysSpec)

/-- 'laws.FnMixes', WHERE WHAT IT READS IS OF BULK AT MOST 1048576: true; the input reads as it did. -/
def fnMixesUptoRow : OpenClaim := { program := "ytjabcoanpinpiaa", sum := "9db20460f8d1c968da056e8f7f563a166beb1a6b5a22aa550de59bbf3db562bd", func := "loop.example/g01011/laws.FnMixes", spec := "fnMixes", unfollowed := true, recurses := true, apart := false, narrowed := true }
def FnMixesUptoSaid : Prop := fnMixesUptoRow.holds Try.pinned (OpenSpec.upto fnMixesSpec)

/-- 'laws.FnExactWaterDensity', WHERE WHAT IT READS IS OF BULK AT MOST 1048576: true; the input reads as it did. -/
def fnExactWaterDensityUptoRow : OpenClaim := { program := "ytjabcoanpinpiaa", sum := "9db20460f8d1c968da056e8f7f563a166beb1a6b5a22aa550de59bbf3db562bd", func := "loop.example/g01011/laws.FnExactWaterDensity", spec := "fnExactWaterDensity", unfollowed := true, recurses := true, apart := false, narrowed := true }
def FnExactWaterDensityUptoSaid : Prop := fnExactWaterDensityUptoRow.holds Try.pinned (OpenSpec.upto fnExactWaterDensitySpec)

/-- 'laws.FnExactBoilingAt', WHERE WHAT IT READS IS OF BULK AT MOST 1048576: true; the input reads as it did. -/
def fnExactBoilingAtUptoRow : OpenClaim := { program := "ytjabcoanpinpiaa", sum := "9db20460f8d1c968da056e8f7f563a166beb1a6b5a22aa550de59bbf3db562bd", func := "loop.example/g01011/laws.FnExactBoilingAt", spec := "fnExactBoilingAt", unfollowed := true, recurses := true, apart := false, narrowed := true }
def FnExactBoilingAtUptoSaid : Prop := fnExactBoilingAtUptoRow.holds Try.pinned (OpenSpec.upto fnExactBoilingAtSpec)

/-- 'laws.FnExactSteamPressure', WHERE WHAT IT READS IS OF BULK AT MOST 1048576: true; the input reads as it did. -/
def fnExactSteamPressureUptoRow : OpenClaim := { program := "ytjabcoanpinpiaa", sum := "9db20460f8d1c968da056e8f7f563a166beb1a6b5a22aa550de59bbf3db562bd", func := "loop.example/g01011/laws.FnExactSteamPressure", spec := "fnExactSteamPressure", unfollowed := true, recurses := true, apart := false, narrowed := true }
def FnExactSteamPressureUptoSaid : Prop := fnExactSteamPressureUptoRow.holds Try.pinned (OpenSpec.upto fnExactSteamPressureSpec)

/-- 'laws.FnExactMarginTo', WHERE WHAT IT READS IS OF BULK AT MOST 1048576: true; the input reads as it did. -/
def fnExactMarginToUptoRow : OpenClaim := { program := "ytjabcoanpinpiaa", sum := "9db20460f8d1c968da056e8f7f563a166beb1a6b5a22aa550de59bbf3db562bd", func := "loop.example/g01011/laws.FnExactMarginTo", spec := "fnExactMarginTo", unfollowed := true, recurses := true, apart := false, narrowed := true }
def FnExactMarginToUptoSaid : Prop := fnExactMarginToUptoRow.holds Try.pinned (OpenSpec.upto fnExactMarginToSpec)

/-- 'laws.FnExactHeatPower', WHERE WHAT IT READS IS OF BULK AT MOST 1048576: true; the input reads as it did. -/
def fnExactHeatPowerUptoRow : OpenClaim := { program := "ytjabcoanpinpiaa", sum := "9db20460f8d1c968da056e8f7f563a166beb1a6b5a22aa550de59bbf3db562bd", func := "loop.example/g01011/laws.FnExactHeatPower", spec := "fnExactHeatPower", apart := false, narrowed := true }
def FnExactHeatPowerUptoSaid : Prop := fnExactHeatPowerUptoRow.holds Try.pinned (OpenSpec.upto fnExactHeatPowerSpec)

/-- 'laws.FnExactFlowForPower', WHERE WHAT IT READS IS OF BULK AT MOST 1048576: true; the input reads as it did. -/
def fnExactFlowForPowerUptoRow : OpenClaim := { program := "ytjabcoanpinpiaa", sum := "9db20460f8d1c968da056e8f7f563a166beb1a6b5a22aa550de59bbf3db562bd", func := "loop.example/g01011/laws.FnExactFlowForPower", spec := "fnExactFlowForPower", unfollowed := true, recurses := true, apart := false, narrowed := true }
def FnExactFlowForPowerUptoSaid : Prop := fnExactFlowForPowerUptoRow.holds Try.pinned (OpenSpec.upto fnExactFlowForPowerSpec)

/-- 'laws.FnExactMixWater', WHERE WHAT IT READS IS OF BULK AT MOST 1048576: true; the input reads as it did. -/
def fnExactMixWaterUptoRow : OpenClaim := { program := "ytjabcoanpinpiaa", sum := "9db20460f8d1c968da056e8f7f563a166beb1a6b5a22aa550de59bbf3db562bd", func := "loop.example/g01011/laws.FnExactMixWater", spec := "fnExactMixWater", apart := false, narrowed := true }
def FnExactMixWaterUptoSaid : Prop := fnExactMixWaterUptoRow.holds Try.pinned (OpenSpec.upto fnExactMixWaterSpec)

/-- 'laws.FnExactExpandedVolume', WHERE WHAT IT READS IS OF BULK AT MOST 1048576: true; the input reads as it did. -/
def fnExactExpandedVolumeUptoRow : OpenClaim := { program := "ytjabcoanpinpiaa", sum := "9db20460f8d1c968da056e8f7f563a166beb1a6b5a22aa550de59bbf3db562bd", func := "loop.example/g01011/laws.FnExactExpandedVolume", spec := "fnExactExpandedVolume", unfollowed := true, recurses := true, apart := false, narrowed := true }
def FnExactExpandedVolumeUptoSaid : Prop := fnExactExpandedVolumeUptoRow.holds Try.pinned (OpenSpec.upto fnExactExpandedVolumeSpec)

end Rows
end Go.Proofs.Ytjabcoanpinpiaa
