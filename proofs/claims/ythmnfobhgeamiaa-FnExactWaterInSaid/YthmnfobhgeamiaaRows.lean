/-
  No cell of these rows narrows 'for every input' (looked for: loops, veiled, ifaces, maps, wideKeys, modest, calm, conditions, laid).
  DERIVED. THE GIVEN ROWS OF THIS SEAT. 12 by the template 'for every input the law returns true; each argument reads behind the call as it read before'; 0 by the template 'total and deterministic' (their statements: YthmnfobhgeamiaaTotals.lean).
  GIVEN WITH THE SEED: the statements are not yours to turn. If you find one false, say at which input.
  Laid BY PROGRAM, IN A SANDBOX (cutbox-rows.mjs): the forced cells as the released guide's own fill.sh prints them over the translation 7cd18f0f550ec43e… (all of the seat's roots in one cut). By AI agents, Wed Nov 11 2026. No macro, syntax, notation, axiom, sorry.
-/
import Derived.Test.YthmnfobhgeamiaaChecked
import GoSem.Claim
import GoSem.ClaimJoined
import GoSem.ClaimMapViews
import Derived.JoinedTies
import Derived.KernelRfl
namespace Go.Proofs.Ythmnfobhgeamiaa
/- THE CELL 'sum', in the pinned program and in every row, IS THE sha256 OF THE DUMP (.gsa) THAT YthmnfobhgeamiaaProg.lean LOADS. Nothing in Lean hashes anything: it is a label: what it is worth is what the hold of that sum in a sandbox is worth. -/
noncomputable def Try.pinned : Pinned := { name := "ythmnfobhgeamiaa", sum := "7cd18f0f550ec43e5100ed3849b76cca029e7f7a6abba90b13ca1a31fb4f9441", checked := Try.checked }
namespace Rows
def none {H : Type} : Left H := { results := [], args := [] }

/-- 'laws.FnExactWaterDensity': WHATEVER THE INPUT: true; the input reads as it did. -/
def fnExactWaterDensitySpec : ChangeSpec := { name := "fnExactWaterDensity", fn := fun _ => fun
  | [d] => { results := [.lit (.bool true)], args := [d] }
  | _ => none }
def fnExactWaterDensityRow : OpenClaim := { program := "ythmnfobhgeamiaa", sum := "7cd18f0f550ec43e5100ed3849b76cca029e7f7a6abba90b13ca1a31fb4f9441", func := "loop.example/g01011/laws.FnExactWaterDensity", spec := "fnExactWaterDensity", unfollowed := true, recurses := true, apart := false }
def FnExactWaterDensitySaid : Prop := fnExactWaterDensityRow.holds Try.pinned (OpenSpec.ofChange fnExactWaterDensitySpec)

/-- ITS FALSE NEIGHBOUR: 'it returns false'. Refute it at one input. -/
def fnExactWaterDensityWrong : ChangeSpec := { name := "fnExactWaterDensity", fn := fun _ => fun
  | [d] => { results := [.lit (.bool false)], args := [d] }
  | _ => none }
def FnExactWaterDensityWrongFalsely : Prop := fnExactWaterDensityRow.holds Try.pinned (OpenSpec.ofChange fnExactWaterDensityWrong)

/-- 'laws.FnExactBoilingAt': WHATEVER THE INPUT: true; the input reads as it did. -/
def fnExactBoilingAtSpec : ChangeSpec := { name := "fnExactBoilingAt", fn := fun _ => fun
  | [d] => { results := [.lit (.bool true)], args := [d] }
  | _ => none }
def fnExactBoilingAtRow : OpenClaim := { program := "ythmnfobhgeamiaa", sum := "7cd18f0f550ec43e5100ed3849b76cca029e7f7a6abba90b13ca1a31fb4f9441", func := "loop.example/g01011/laws.FnExactBoilingAt", spec := "fnExactBoilingAt", unfollowed := true, recurses := true, apart := false }
def FnExactBoilingAtSaid : Prop := fnExactBoilingAtRow.holds Try.pinned (OpenSpec.ofChange fnExactBoilingAtSpec)

/-- ITS FALSE NEIGHBOUR: 'it returns false'. Refute it at one input. -/
def fnExactBoilingAtWrong : ChangeSpec := { name := "fnExactBoilingAt", fn := fun _ => fun
  | [d] => { results := [.lit (.bool false)], args := [d] }
  | _ => none }
def FnExactBoilingAtWrongFalsely : Prop := fnExactBoilingAtRow.holds Try.pinned (OpenSpec.ofChange fnExactBoilingAtWrong)

/-- 'laws.FnExactSteamPressure': WHATEVER THE INPUT: true; the input reads as it did. -/
def fnExactSteamPressureSpec : ChangeSpec := { name := "fnExactSteamPressure", fn := fun _ => fun
  | [d] => { results := [.lit (.bool true)], args := [d] }
  | _ => none }
def fnExactSteamPressureRow : OpenClaim := { program := "ythmnfobhgeamiaa", sum := "7cd18f0f550ec43e5100ed3849b76cca029e7f7a6abba90b13ca1a31fb4f9441", func := "loop.example/g01011/laws.FnExactSteamPressure", spec := "fnExactSteamPressure", unfollowed := true, recurses := true, apart := false }
def FnExactSteamPressureSaid : Prop := fnExactSteamPressureRow.holds Try.pinned (OpenSpec.ofChange fnExactSteamPressureSpec)

/-- ITS FALSE NEIGHBOUR: 'it returns false'. Refute it at one input. -/
def fnExactSteamPressureWrong : ChangeSpec := { name := "fnExactSteamPressure", fn := fun _ => fun
  | [d] => { results := [.lit (.bool false)], args := [d] }
  | _ => none }
def FnExactSteamPressureWrongFalsely : Prop := fnExactSteamPressureRow.holds Try.pinned (OpenSpec.ofChange fnExactSteamPressureWrong)

/-- 'laws.FnExactMarginTo': WHATEVER THE INPUT: true; the input reads as it did. -/
def fnExactMarginToSpec : ChangeSpec := { name := "fnExactMarginTo", fn := fun _ => fun
  | [d1, d2] => { results := [.lit (.bool true)], args := [d1, d2] }
  | _ => none }
def fnExactMarginToRow : OpenClaim := { program := "ythmnfobhgeamiaa", sum := "7cd18f0f550ec43e5100ed3849b76cca029e7f7a6abba90b13ca1a31fb4f9441", func := "loop.example/g01011/laws.FnExactMarginTo", spec := "fnExactMarginTo", unfollowed := true, recurses := true, apart := false }
def FnExactMarginToSaid : Prop := fnExactMarginToRow.holds Try.pinned (OpenSpec.ofChange fnExactMarginToSpec)

/-- ITS FALSE NEIGHBOUR: 'it returns false'. Refute it at one input. -/
def fnExactMarginToWrong : ChangeSpec := { name := "fnExactMarginTo", fn := fun _ => fun
  | [d1, d2] => { results := [.lit (.bool false)], args := [d1, d2] }
  | _ => none }
def FnExactMarginToWrongFalsely : Prop := fnExactMarginToRow.holds Try.pinned (OpenSpec.ofChange fnExactMarginToWrong)

/-- 'laws.FnExactHeatPower': WHATEVER THE INPUT: true; the input reads as it did. -/
def fnExactHeatPowerSpec : ChangeSpec := { name := "fnExactHeatPower", fn := fun _ => fun
  | [d1, d2, d3] => { results := [.lit (.bool true)], args := [d1, d2, d3] }
  | _ => none }
def fnExactHeatPowerRow : OpenClaim := { program := "ythmnfobhgeamiaa", sum := "7cd18f0f550ec43e5100ed3849b76cca029e7f7a6abba90b13ca1a31fb4f9441", func := "loop.example/g01011/laws.FnExactHeatPower", spec := "fnExactHeatPower", apart := false }
def FnExactHeatPowerSaid : Prop := fnExactHeatPowerRow.holds Try.pinned (OpenSpec.ofChange fnExactHeatPowerSpec)

/-- ITS FALSE NEIGHBOUR: 'it returns false'. Refute it at one input. -/
def fnExactHeatPowerWrong : ChangeSpec := { name := "fnExactHeatPower", fn := fun _ => fun
  | [d1, d2, d3] => { results := [.lit (.bool false)], args := [d1, d2, d3] }
  | _ => none }
def FnExactHeatPowerWrongFalsely : Prop := fnExactHeatPowerRow.holds Try.pinned (OpenSpec.ofChange fnExactHeatPowerWrong)

/-- 'laws.FnExactEnergyOf': WHATEVER THE INPUT: true; the input reads as it did. -/
def fnExactEnergyOfSpec : ChangeSpec := { name := "fnExactEnergyOf", fn := fun _ => fun
  | [d1, d2] => { results := [.lit (.bool true)], args := [d1, d2] }
  | _ => none }
def fnExactEnergyOfRow : OpenClaim := { program := "ythmnfobhgeamiaa", sum := "7cd18f0f550ec43e5100ed3849b76cca029e7f7a6abba90b13ca1a31fb4f9441", func := "loop.example/g01011/laws.FnExactEnergyOf", spec := "fnExactEnergyOf", apart := false }
def FnExactEnergyOfSaid : Prop := fnExactEnergyOfRow.holds Try.pinned (OpenSpec.ofChange fnExactEnergyOfSpec)

/-- ITS FALSE NEIGHBOUR: 'it returns false'. Refute it at one input. -/
def fnExactEnergyOfWrong : ChangeSpec := { name := "fnExactEnergyOf", fn := fun _ => fun
  | [d1, d2] => { results := [.lit (.bool false)], args := [d1, d2] }
  | _ => none }
def FnExactEnergyOfWrongFalsely : Prop := fnExactEnergyOfRow.holds Try.pinned (OpenSpec.ofChange fnExactEnergyOfWrong)

/-- 'laws.FnExactHeadPressure': WHATEVER THE INPUT: true; the input reads as it did. -/
def fnExactHeadPressureSpec : ChangeSpec := { name := "fnExactHeadPressure", fn := fun _ => fun
  | [d1, d2] => { results := [.lit (.bool true)], args := [d1, d2] }
  | _ => none }
def fnExactHeadPressureRow : OpenClaim := { program := "ythmnfobhgeamiaa", sum := "7cd18f0f550ec43e5100ed3849b76cca029e7f7a6abba90b13ca1a31fb4f9441", func := "loop.example/g01011/laws.FnExactHeadPressure", spec := "fnExactHeadPressure", unfollowed := true, recurses := true, apart := false }
def FnExactHeadPressureSaid : Prop := fnExactHeadPressureRow.holds Try.pinned (OpenSpec.ofChange fnExactHeadPressureSpec)

/-- ITS FALSE NEIGHBOUR: 'it returns false'. Refute it at one input. -/
def fnExactHeadPressureWrong : ChangeSpec := { name := "fnExactHeadPressure", fn := fun _ => fun
  | [d1, d2] => { results := [.lit (.bool false)], args := [d1, d2] }
  | _ => none }
def FnExactHeadPressureWrongFalsely : Prop := fnExactHeadPressureRow.holds Try.pinned (OpenSpec.ofChange fnExactHeadPressureWrong)

/-- 'laws.FnExactHeatFlow': WHATEVER THE INPUT: true; the input reads as it did. -/
def fnExactHeatFlowSpec : ChangeSpec := { name := "fnExactHeatFlow", fn := fun _ => fun
  | [d1, d2, d3] => { results := [.lit (.bool true)], args := [d1, d2, d3] }
  | _ => none }
def fnExactHeatFlowRow : OpenClaim := { program := "ythmnfobhgeamiaa", sum := "7cd18f0f550ec43e5100ed3849b76cca029e7f7a6abba90b13ca1a31fb4f9441", func := "loop.example/g01011/laws.FnExactHeatFlow", spec := "fnExactHeatFlow", apart := false }
def FnExactHeatFlowSaid : Prop := fnExactHeatFlowRow.holds Try.pinned (OpenSpec.ofChange fnExactHeatFlowSpec)

/-- ITS FALSE NEIGHBOUR: 'it returns false'. Refute it at one input. -/
def fnExactHeatFlowWrong : ChangeSpec := { name := "fnExactHeatFlow", fn := fun _ => fun
  | [d1, d2, d3] => { results := [.lit (.bool false)], args := [d1, d2, d3] }
  | _ => none }
def FnExactHeatFlowWrongFalsely : Prop := fnExactHeatFlowRow.holds Try.pinned (OpenSpec.ofChange fnExactHeatFlowWrong)

/-- 'laws.FnExactDropOf': WHATEVER THE INPUT: true; the input reads as it did. -/
def fnExactDropOfSpec : ChangeSpec := { name := "fnExactDropOf", fn := fun _ => fun
  | [d1, d2] => { results := [.lit (.bool true)], args := [d1, d2] }
  | _ => none }
def fnExactDropOfRow : OpenClaim := { program := "ythmnfobhgeamiaa", sum := "7cd18f0f550ec43e5100ed3849b76cca029e7f7a6abba90b13ca1a31fb4f9441", func := "loop.example/g01011/laws.FnExactDropOf", spec := "fnExactDropOf", apart := false }
def FnExactDropOfSaid : Prop := fnExactDropOfRow.holds Try.pinned (OpenSpec.ofChange fnExactDropOfSpec)

/-- ITS FALSE NEIGHBOUR: 'it returns false'. Refute it at one input. -/
def fnExactDropOfWrong : ChangeSpec := { name := "fnExactDropOf", fn := fun _ => fun
  | [d1, d2] => { results := [.lit (.bool false)], args := [d1, d2] }
  | _ => none }
def FnExactDropOfWrongFalsely : Prop := fnExactDropOfRow.holds Try.pinned (OpenSpec.ofChange fnExactDropOfWrong)

/-- 'laws.FnExactWaterIn': WHATEVER THE INPUT: true; the input reads as it did. -/
def fnExactWaterInSpec : ChangeSpec := { name := "fnExactWaterIn", fn := fun _ => fun
  | [d] => { results := [.lit (.bool true)], args := [d] }
  | _ => none }
def fnExactWaterInRow : OpenClaim := { program := "ythmnfobhgeamiaa", sum := "7cd18f0f550ec43e5100ed3849b76cca029e7f7a6abba90b13ca1a31fb4f9441", func := "loop.example/g01011/laws.FnExactWaterIn", spec := "fnExactWaterIn", apart := false }
def FnExactWaterInSaid : Prop := fnExactWaterInRow.holds Try.pinned (OpenSpec.ofChange fnExactWaterInSpec)

/-- ITS FALSE NEIGHBOUR: 'it returns false'. Refute it at one input. -/
def fnExactWaterInWrong : ChangeSpec := { name := "fnExactWaterIn", fn := fun _ => fun
  | [d] => { results := [.lit (.bool false)], args := [d] }
  | _ => none }
def FnExactWaterInWrongFalsely : Prop := fnExactWaterInRow.holds Try.pinned (OpenSpec.ofChange fnExactWaterInWrong)

/-- 'laws.FnExactDelayOf': WHATEVER THE INPUT: true; the input reads as it did. -/
def fnExactDelayOfSpec : ChangeSpec := { name := "fnExactDelayOf", fn := fun _ => fun
  | [d1, d2] => { results := [.lit (.bool true)], args := [d1, d2] }
  | _ => none }
def fnExactDelayOfRow : OpenClaim := { program := "ythmnfobhgeamiaa", sum := "7cd18f0f550ec43e5100ed3849b76cca029e7f7a6abba90b13ca1a31fb4f9441", func := "loop.example/g01011/laws.FnExactDelayOf", spec := "fnExactDelayOf", apart := false }
def FnExactDelayOfSaid : Prop := fnExactDelayOfRow.holds Try.pinned (OpenSpec.ofChange fnExactDelayOfSpec)

/-- ITS FALSE NEIGHBOUR: 'it returns false'. Refute it at one input. -/
def fnExactDelayOfWrong : ChangeSpec := { name := "fnExactDelayOf", fn := fun _ => fun
  | [d1, d2] => { results := [.lit (.bool false)], args := [d1, d2] }
  | _ => none }
def FnExactDelayOfWrongFalsely : Prop := fnExactDelayOfRow.holds Try.pinned (OpenSpec.ofChange fnExactDelayOfWrong)

/-- 'laws.FnExactSpeedOf': WHATEVER THE INPUT: true; the input reads as it did. -/
def fnExactSpeedOfSpec : ChangeSpec := { name := "fnExactSpeedOf", fn := fun _ => fun
  | [d1, d2] => { results := [.lit (.bool true)], args := [d1, d2] }
  | _ => none }
def fnExactSpeedOfRow : OpenClaim := { program := "ythmnfobhgeamiaa", sum := "7cd18f0f550ec43e5100ed3849b76cca029e7f7a6abba90b13ca1a31fb4f9441", func := "loop.example/g01011/laws.FnExactSpeedOf", spec := "fnExactSpeedOf", apart := false }
def FnExactSpeedOfSaid : Prop := fnExactSpeedOfRow.holds Try.pinned (OpenSpec.ofChange fnExactSpeedOfSpec)

/-- ITS FALSE NEIGHBOUR: 'it returns false'. Refute it at one input. -/
def fnExactSpeedOfWrong : ChangeSpec := { name := "fnExactSpeedOf", fn := fun _ => fun
  | [d1, d2] => { results := [.lit (.bool false)], args := [d1, d2] }
  | _ => none }
def FnExactSpeedOfWrongFalsely : Prop := fnExactSpeedOfRow.holds Try.pinned (OpenSpec.ofChange fnExactSpeedOfWrong)

/- THE SECOND FORM. 'bulk': how many values and letters a reading holds, each counted each time it is reached (what is shared counts as often as it is met; a slice's spare places count too). A statement '..UptoSaid' is the law's where the arguments, and the package variables that the reading takes, are together of bulk at most 1048576: NARROWER than '..Said'. Prove '..Said' where nothing that the law and all that it calls make is longer than what came in: it says more and counts as full. Else prove '..UptoSaid'. A law counts once. -/
mutual
def uptoBulk {H : Type} : DataW H → Nat
  | .lit (.string bytes) => bytes.length + 1
  | .lit _ => 1
  | .nil => 1
  | .ptr d => uptoBulk d + 1
  | .slice elems spare => uptoBulkAll elems + uptoBulkAll spare + 1
  | .agg parts => uptoBulkAll parts + 1
  | .iface _ d => uptoBulk d + 1
  | .map entries => uptoBulkEntries entries + 1
  | .held _ => 1
def uptoBulkAll {H : Type} : List (DataW H) → Nat
  | [] => 0
  | d :: r => uptoBulk d + uptoBulkAll r
def uptoBulkEntries {H : Type} : List (Lit × DataW H) → Nat
  | [] => 0
  | x :: r => uptoBulkEntry x + uptoBulkEntries r
def uptoBulkEntry {H : Type} : Lit × DataW H → Nat
  | (.string bytes, d) => bytes.length + uptoBulk d + 1
  | (_, d) => uptoBulk d + 1
 end
def uptoSmall : (H : Type) → List (DataW H) → Bool := fun _ ds => decide (uptoBulkAll ds ≤ 1048576)
def OpenSpec.upto (s : _root_.Go.ChangeSpec) : _root_.Go.OpenSpec := { _root_.Go.OpenSpec.ofChange s with cond := some uptoSmall }

/-- 'laws.FnExactWaterDensity', WHERE WHAT IT READS IS OF BULK AT MOST 1048576: true; the input reads as it did. -/
def fnExactWaterDensityUptoRow : OpenClaim := { program := "ythmnfobhgeamiaa", sum := "7cd18f0f550ec43e5100ed3849b76cca029e7f7a6abba90b13ca1a31fb4f9441", func := "loop.example/g01011/laws.FnExactWaterDensity", spec := "fnExactWaterDensity", unfollowed := true, recurses := true, apart := false, narrowed := true }
def FnExactWaterDensityUptoSaid : Prop := fnExactWaterDensityUptoRow.holds Try.pinned (OpenSpec.upto fnExactWaterDensitySpec)

/-- 'laws.FnExactBoilingAt', WHERE WHAT IT READS IS OF BULK AT MOST 1048576: true; the input reads as it did. -/
def fnExactBoilingAtUptoRow : OpenClaim := { program := "ythmnfobhgeamiaa", sum := "7cd18f0f550ec43e5100ed3849b76cca029e7f7a6abba90b13ca1a31fb4f9441", func := "loop.example/g01011/laws.FnExactBoilingAt", spec := "fnExactBoilingAt", unfollowed := true, recurses := true, apart := false, narrowed := true }
def FnExactBoilingAtUptoSaid : Prop := fnExactBoilingAtUptoRow.holds Try.pinned (OpenSpec.upto fnExactBoilingAtSpec)

/-- 'laws.FnExactSteamPressure', WHERE WHAT IT READS IS OF BULK AT MOST 1048576: true; the input reads as it did. -/
def fnExactSteamPressureUptoRow : OpenClaim := { program := "ythmnfobhgeamiaa", sum := "7cd18f0f550ec43e5100ed3849b76cca029e7f7a6abba90b13ca1a31fb4f9441", func := "loop.example/g01011/laws.FnExactSteamPressure", spec := "fnExactSteamPressure", unfollowed := true, recurses := true, apart := false, narrowed := true }
def FnExactSteamPressureUptoSaid : Prop := fnExactSteamPressureUptoRow.holds Try.pinned (OpenSpec.upto fnExactSteamPressureSpec)

/-- 'laws.FnExactMarginTo', WHERE WHAT IT READS IS OF BULK AT MOST 1048576: true; the input reads as it did. -/
def fnExactMarginToUptoRow : OpenClaim := { program := "ythmnfobhgeamiaa", sum := "7cd18f0f550ec43e5100ed3849b76cca029e7f7a6abba90b13ca1a31fb4f9441", func := "loop.example/g01011/laws.FnExactMarginTo", spec := "fnExactMarginTo", unfollowed := true, recurses := true, apart := false, narrowed := true }
def FnExactMarginToUptoSaid : Prop := fnExactMarginToUptoRow.holds Try.pinned (OpenSpec.upto fnExactMarginToSpec)

/-- 'laws.FnExactHeatPower', WHERE WHAT IT READS IS OF BULK AT MOST 1048576: true; the input reads as it did. -/
def fnExactHeatPowerUptoRow : OpenClaim := { program := "ythmnfobhgeamiaa", sum := "7cd18f0f550ec43e5100ed3849b76cca029e7f7a6abba90b13ca1a31fb4f9441", func := "loop.example/g01011/laws.FnExactHeatPower", spec := "fnExactHeatPower", apart := false, narrowed := true }
def FnExactHeatPowerUptoSaid : Prop := fnExactHeatPowerUptoRow.holds Try.pinned (OpenSpec.upto fnExactHeatPowerSpec)

/-- 'laws.FnExactEnergyOf', WHERE WHAT IT READS IS OF BULK AT MOST 1048576: true; the input reads as it did. -/
def fnExactEnergyOfUptoRow : OpenClaim := { program := "ythmnfobhgeamiaa", sum := "7cd18f0f550ec43e5100ed3849b76cca029e7f7a6abba90b13ca1a31fb4f9441", func := "loop.example/g01011/laws.FnExactEnergyOf", spec := "fnExactEnergyOf", apart := false, narrowed := true }
def FnExactEnergyOfUptoSaid : Prop := fnExactEnergyOfUptoRow.holds Try.pinned (OpenSpec.upto fnExactEnergyOfSpec)

/-- 'laws.FnExactHeadPressure', WHERE WHAT IT READS IS OF BULK AT MOST 1048576: true; the input reads as it did. -/
def fnExactHeadPressureUptoRow : OpenClaim := { program := "ythmnfobhgeamiaa", sum := "7cd18f0f550ec43e5100ed3849b76cca029e7f7a6abba90b13ca1a31fb4f9441", func := "loop.example/g01011/laws.FnExactHeadPressure", spec := "fnExactHeadPressure", unfollowed := true, recurses := true, apart := false, narrowed := true }
def FnExactHeadPressureUptoSaid : Prop := fnExactHeadPressureUptoRow.holds Try.pinned (OpenSpec.upto fnExactHeadPressureSpec)

/-- 'laws.FnExactHeatFlow', WHERE WHAT IT READS IS OF BULK AT MOST 1048576: true; the input reads as it did. -/
def fnExactHeatFlowUptoRow : OpenClaim := { program := "ythmnfobhgeamiaa", sum := "7cd18f0f550ec43e5100ed3849b76cca029e7f7a6abba90b13ca1a31fb4f9441", func := "loop.example/g01011/laws.FnExactHeatFlow", spec := "fnExactHeatFlow", apart := false, narrowed := true }
def FnExactHeatFlowUptoSaid : Prop := fnExactHeatFlowUptoRow.holds Try.pinned (OpenSpec.upto fnExactHeatFlowSpec)

/-- 'laws.FnExactDropOf', WHERE WHAT IT READS IS OF BULK AT MOST 1048576: true; the input reads as it did. -/
def fnExactDropOfUptoRow : OpenClaim := { program := "ythmnfobhgeamiaa", sum := "7cd18f0f550ec43e5100ed3849b76cca029e7f7a6abba90b13ca1a31fb4f9441", func := "loop.example/g01011/laws.FnExactDropOf", spec := "fnExactDropOf", apart := false, narrowed := true }
def FnExactDropOfUptoSaid : Prop := fnExactDropOfUptoRow.holds Try.pinned (OpenSpec.upto fnExactDropOfSpec)

/-- 'laws.FnExactWaterIn', WHERE WHAT IT READS IS OF BULK AT MOST 1048576: true; the input reads as it did. -/
def fnExactWaterInUptoRow : OpenClaim := { program := "ythmnfobhgeamiaa", sum := "7cd18f0f550ec43e5100ed3849b76cca029e7f7a6abba90b13ca1a31fb4f9441", func := "loop.example/g01011/laws.FnExactWaterIn", spec := "fnExactWaterIn", apart := false, narrowed := true }
def FnExactWaterInUptoSaid : Prop := fnExactWaterInUptoRow.holds Try.pinned (OpenSpec.upto fnExactWaterInSpec)

/-- 'laws.FnExactDelayOf', WHERE WHAT IT READS IS OF BULK AT MOST 1048576: true; the input reads as it did. -/
def fnExactDelayOfUptoRow : OpenClaim := { program := "ythmnfobhgeamiaa", sum := "7cd18f0f550ec43e5100ed3849b76cca029e7f7a6abba90b13ca1a31fb4f9441", func := "loop.example/g01011/laws.FnExactDelayOf", spec := "fnExactDelayOf", apart := false, narrowed := true }
def FnExactDelayOfUptoSaid : Prop := fnExactDelayOfUptoRow.holds Try.pinned (OpenSpec.upto fnExactDelayOfSpec)

/-- 'laws.FnExactSpeedOf', WHERE WHAT IT READS IS OF BULK AT MOST 1048576: true; the input reads as it did. -/
def fnExactSpeedOfUptoRow : OpenClaim := { program := "ythmnfobhgeamiaa", sum := "7cd18f0f550ec43e5100ed3849b76cca029e7f7a6abba90b13ca1a31fb4f9441", func := "loop.example/g01011/laws.FnExactSpeedOf", spec := "fnExactSpeedOf", apart := false, narrowed := true }
def FnExactSpeedOfUptoSaid : Prop := fnExactSpeedOfUptoRow.holds Try.pinned (OpenSpec.upto fnExactSpeedOfSpec)

end Rows
end Go.Proofs.Ythmnfobhgeamiaa
