/-
  No cell of these rows narrows 'for every input' (looked for: loops, veiled, ifaces, maps, wideKeys, modest, calm, conditions, laid).
  DERIVED. THE GIVEN ROWS OF THIS SEAT. 12 by the template 'for every input the law returns true; each argument reads behind the call as it read before'; 0 by the template 'total and deterministic' (their statements: YtkbkmpcdidhagaaTotals.lean).
  GIVEN WITH THE SEED: the statements are not yours to turn. If you find one false, say at which input.
  Laid BY PROGRAM, IN A SANDBOX (cutbox-rows.mjs): the forced cells as the released guide's own fill.sh prints them over the translation 32f8a31d1bfc140d… (all of the seat's roots in one cut). By AI agents, Wed Nov 11 2026. No macro, syntax, notation, axiom, sorry.
-/
import Derived.Test.YtkbkmpcdidhagaaChecked
import GoSem.Claim
import GoSem.ClaimJoined
import GoSem.ClaimMapViews
import Derived.JoinedTies
import Derived.KernelRfl
namespace Go.Proofs.Ytkbkmpcdidhagaa
/- THE CELL 'sum', in the pinned program and in every row, IS THE sha256 OF THE DUMP (.gsa) THAT YtkbkmpcdidhagaaProg.lean LOADS. Nothing in Lean hashes anything: it is a label: what it is worth is what the hold of that sum in a sandbox is worth. -/
noncomputable def Try.pinned : Pinned := { name := "ytkbkmpcdidhagaa", sum := "32f8a31d1bfc140df5771e6f96b0b286c49895909aef1f681fd8ddd301ca831e", checked := Try.checked }
namespace Rows
def none {H : Type} : Left H := { results := [], args := [] }

/-- 'laws.FnExactTreeFlows': WHATEVER THE INPUT: true; the input reads as it did. -/
def fnExactTreeFlowsSpec : ChangeSpec := { name := "fnExactTreeFlows", fn := fun _ => fun
  | [d1, d2, d3] => { results := [.lit (.bool true)], args := [d1, d2, d3] }
  | _ => none }
def fnExactTreeFlowsRow : OpenClaim := { program := "ytkbkmpcdidhagaa", sum := "32f8a31d1bfc140df5771e6f96b0b286c49895909aef1f681fd8ddd301ca831e", func := "loop.example/g01011/laws.FnExactTreeFlows", spec := "fnExactTreeFlows", unfollowed := true, recurses := true, apart := false }
def FnExactTreeFlowsSaid : Prop := fnExactTreeFlowsRow.holds Try.pinned (OpenSpec.ofChange fnExactTreeFlowsSpec)

/-- ITS FALSE NEIGHBOUR: 'it returns false'. Refute it at one input. -/
def fnExactTreeFlowsWrong : ChangeSpec := { name := "fnExactTreeFlows", fn := fun _ => fun
  | [d1, d2, d3] => { results := [.lit (.bool false)], args := [d1, d2, d3] }
  | _ => none }
def FnExactTreeFlowsWrongFalsely : Prop := fnExactTreeFlowsRow.holds Try.pinned (OpenSpec.ofChange fnExactTreeFlowsWrong)

/-- 'laws.FnExactPressuresOf': WHATEVER THE INPUT: true; the input reads as it did. -/
def fnExactPressuresOfSpec : ChangeSpec := { name := "fnExactPressuresOf", fn := fun _ => fun
  | [d1, d2, d3, d4] => { results := [.lit (.bool true)], args := [d1, d2, d3, d4] }
  | _ => none }
def fnExactPressuresOfRow : OpenClaim := { program := "ytkbkmpcdidhagaa", sum := "32f8a31d1bfc140df5771e6f96b0b286c49895909aef1f681fd8ddd301ca831e", func := "loop.example/g01011/laws.FnExactPressuresOf", spec := "fnExactPressuresOf", unfollowed := true, recurses := true, apart := false }
def FnExactPressuresOfSaid : Prop := fnExactPressuresOfRow.holds Try.pinned (OpenSpec.ofChange fnExactPressuresOfSpec)

/-- ITS FALSE NEIGHBOUR: 'it returns false'. Refute it at one input. -/
def fnExactPressuresOfWrong : ChangeSpec := { name := "fnExactPressuresOf", fn := fun _ => fun
  | [d1, d2, d3, d4] => { results := [.lit (.bool false)], args := [d1, d2, d3, d4] }
  | _ => none }
def FnExactPressuresOfWrongFalsely : Prop := fnExactPressuresOfRow.holds Try.pinned (OpenSpec.ofChange fnExactPressuresOfWrong)

/-- 'laws.FnExactDifferencesOf': WHATEVER THE INPUT: true; the input reads as it did. -/
def fnExactDifferencesOfSpec : ChangeSpec := { name := "fnExactDifferencesOf", fn := fun _ => fun
  | [d1, d2, d3, d4] => { results := [.lit (.bool true)], args := [d1, d2, d3, d4] }
  | _ => none }
def fnExactDifferencesOfRow : OpenClaim := { program := "ytkbkmpcdidhagaa", sum := "32f8a31d1bfc140df5771e6f96b0b286c49895909aef1f681fd8ddd301ca831e", func := "loop.example/g01011/laws.FnExactDifferencesOf", spec := "fnExactDifferencesOf", unfollowed := true, recurses := true, apart := false }
def FnExactDifferencesOfSaid : Prop := fnExactDifferencesOfRow.holds Try.pinned (OpenSpec.ofChange fnExactDifferencesOfSpec)

/-- ITS FALSE NEIGHBOUR: 'it returns false'. Refute it at one input. -/
def fnExactDifferencesOfWrong : ChangeSpec := { name := "fnExactDifferencesOf", fn := fun _ => fun
  | [d1, d2, d3, d4] => { results := [.lit (.bool false)], args := [d1, d2, d3, d4] }
  | _ => none }
def FnExactDifferencesOfWrongFalsely : Prop := fnExactDifferencesOfRow.holds Try.pinned (OpenSpec.ofChange fnExactDifferencesOfWrong)

/-- 'laws.FnExactLeastHead': WHATEVER THE INPUT: true; the input reads as it did. -/
def fnExactLeastHeadSpec : ChangeSpec := { name := "fnExactLeastHead", fn := fun _ => fun
  | [d1, d2, d3, d4] => { results := [.lit (.bool true)], args := [d1, d2, d3, d4] }
  | _ => none }
def fnExactLeastHeadRow : OpenClaim := { program := "ytkbkmpcdidhagaa", sum := "32f8a31d1bfc140df5771e6f96b0b286c49895909aef1f681fd8ddd301ca831e", func := "loop.example/g01011/laws.FnExactLeastHead", spec := "fnExactLeastHead", unfollowed := true, recurses := true, apart := false }
def FnExactLeastHeadSaid : Prop := fnExactLeastHeadRow.holds Try.pinned (OpenSpec.ofChange fnExactLeastHeadSpec)

/-- ITS FALSE NEIGHBOUR: 'it returns false'. Refute it at one input. -/
def fnExactLeastHeadWrong : ChangeSpec := { name := "fnExactLeastHead", fn := fun _ => fun
  | [d1, d2, d3, d4] => { results := [.lit (.bool false)], args := [d1, d2, d3, d4] }
  | _ => none }
def FnExactLeastHeadWrongFalsely : Prop := fnExactLeastHeadRow.holds Try.pinned (OpenSpec.ofChange fnExactLeastHeadWrong)

/-- 'laws.FnExactWorstNode': WHATEVER THE INPUT: true; the input reads as it did. -/
def fnExactWorstNodeSpec : ChangeSpec := { name := "fnExactWorstNode", fn := fun _ => fun
  | [d1, d2, d3, d4] => { results := [.lit (.bool true)], args := [d1, d2, d3, d4] }
  | _ => none }
def fnExactWorstNodeRow : OpenClaim := { program := "ytkbkmpcdidhagaa", sum := "32f8a31d1bfc140df5771e6f96b0b286c49895909aef1f681fd8ddd301ca831e", func := "loop.example/g01011/laws.FnExactWorstNode", spec := "fnExactWorstNode", unfollowed := true, recurses := true, apart := false }
def FnExactWorstNodeSaid : Prop := fnExactWorstNodeRow.holds Try.pinned (OpenSpec.ofChange fnExactWorstNodeSpec)

/-- ITS FALSE NEIGHBOUR: 'it returns false'. Refute it at one input. -/
def fnExactWorstNodeWrong : ChangeSpec := { name := "fnExactWorstNode", fn := fun _ => fun
  | [d1, d2, d3, d4] => { results := [.lit (.bool false)], args := [d1, d2, d3, d4] }
  | _ => none }
def FnExactWorstNodeWrongFalsely : Prop := fnExactWorstNodeRow.holds Try.pinned (OpenSpec.ofChange fnExactWorstNodeWrong)

/-- 'laws.FnExactNodeTemperatures': WHATEVER THE INPUT: true; the input reads as it did. -/
def fnExactNodeTemperaturesSpec : ChangeSpec := { name := "fnExactNodeTemperatures", fn := fun _ => fun
  | [d1, d2, d3, d4, d5] => { results := [.lit (.bool true)], args := [d1, d2, d3, d4, d5] }
  | _ => none }
def fnExactNodeTemperaturesRow : OpenClaim := { program := "ytkbkmpcdidhagaa", sum := "32f8a31d1bfc140df5771e6f96b0b286c49895909aef1f681fd8ddd301ca831e", func := "loop.example/g01011/laws.FnExactNodeTemperatures", spec := "fnExactNodeTemperatures", unfollowed := true, recurses := true, apart := false }
def FnExactNodeTemperaturesSaid : Prop := fnExactNodeTemperaturesRow.holds Try.pinned (OpenSpec.ofChange fnExactNodeTemperaturesSpec)

/-- ITS FALSE NEIGHBOUR: 'it returns false'. Refute it at one input. -/
def fnExactNodeTemperaturesWrong : ChangeSpec := { name := "fnExactNodeTemperatures", fn := fun _ => fun
  | [d1, d2, d3, d4, d5] => { results := [.lit (.bool false)], args := [d1, d2, d3, d4, d5] }
  | _ => none }
def FnExactNodeTemperaturesWrongFalsely : Prop := fnExactNodeTemperaturesRow.holds Try.pinned (OpenSpec.ofChange fnExactNodeTemperaturesWrong)

/-- 'laws.FnExactMissingHours': WHATEVER THE INPUT: true; the input reads as it did. -/
def fnExactMissingHoursSpec : ChangeSpec := { name := "fnExactMissingHours", fn := fun _ => fun
  | [d1, d2] => { results := [.lit (.bool true)], args := [d1, d2] }
  | _ => none }
def fnExactMissingHoursRow : OpenClaim := { program := "ytkbkmpcdidhagaa", sum := "32f8a31d1bfc140df5771e6f96b0b286c49895909aef1f681fd8ddd301ca831e", func := "loop.example/g01011/laws.FnExactMissingHours", spec := "fnExactMissingHours", unfollowed := true, recurses := true, apart := false }
def FnExactMissingHoursSaid : Prop := fnExactMissingHoursRow.holds Try.pinned (OpenSpec.ofChange fnExactMissingHoursSpec)

/-- ITS FALSE NEIGHBOUR: 'it returns false'. Refute it at one input. -/
def fnExactMissingHoursWrong : ChangeSpec := { name := "fnExactMissingHours", fn := fun _ => fun
  | [d1, d2] => { results := [.lit (.bool false)], args := [d1, d2] }
  | _ => none }
def FnExactMissingHoursWrongFalsely : Prop := fnExactMissingHoursRow.holds Try.pinned (OpenSpec.ofChange fnExactMissingHoursWrong)

/-- 'laws.FnExactAddReading': WHATEVER THE INPUT: true; the input reads as it did. -/
def fnExactAddReadingSpec : ChangeSpec := { name := "fnExactAddReading", fn := fun _ => fun
  | [d1, d2] => { results := [.lit (.bool true)], args := [d1, d2] }
  | _ => none }
def fnExactAddReadingRow : OpenClaim := { program := "ytkbkmpcdidhagaa", sum := "32f8a31d1bfc140df5771e6f96b0b286c49895909aef1f681fd8ddd301ca831e", func := "loop.example/g01011/laws.FnExactAddReading", spec := "fnExactAddReading", inPlace := ["slices.overlaps[loop.example/g01011/impl.Reading]"], unfollowed := true, recurses := true, apart := false }
def FnExactAddReadingSaid : Prop := fnExactAddReadingRow.holds Try.pinned (OpenSpec.ofChange fnExactAddReadingSpec)

/-- ITS FALSE NEIGHBOUR: 'it returns false'. Refute it at one input. -/
def fnExactAddReadingWrong : ChangeSpec := { name := "fnExactAddReading", fn := fun _ => fun
  | [d1, d2] => { results := [.lit (.bool false)], args := [d1, d2] }
  | _ => none }
def FnExactAddReadingWrongFalsely : Prop := fnExactAddReadingRow.holds Try.pinned (OpenSpec.ofChange fnExactAddReadingWrong)

/-- 'laws.FnExactPathOf': WHATEVER THE INPUT: true; the input reads as it did. -/
def fnExactPathOfSpec : ChangeSpec := { name := "fnExactPathOf", fn := fun _ => fun
  | [d1, d2, d3] => { results := [.lit (.bool true)], args := [d1, d2, d3] }
  | _ => none }
def fnExactPathOfRow : OpenClaim := { program := "ytkbkmpcdidhagaa", sum := "32f8a31d1bfc140df5771e6f96b0b286c49895909aef1f681fd8ddd301ca831e", func := "loop.example/g01011/laws.FnExactPathOf", spec := "fnExactPathOf", unfollowed := true, recurses := true, apart := false }
def FnExactPathOfSaid : Prop := fnExactPathOfRow.holds Try.pinned (OpenSpec.ofChange fnExactPathOfSpec)

/-- ITS FALSE NEIGHBOUR: 'it returns false'. Refute it at one input. -/
def fnExactPathOfWrong : ChangeSpec := { name := "fnExactPathOf", fn := fun _ => fun
  | [d1, d2, d3] => { results := [.lit (.bool false)], args := [d1, d2, d3] }
  | _ => none }
def FnExactPathOfWrongFalsely : Prop := fnExactPathOfRow.holds Try.pinned (OpenSpec.ofChange fnExactPathOfWrong)

/-- 'laws.FnExactReachedWithout': WHATEVER THE INPUT: true; the input reads as it did. -/
def fnExactReachedWithoutSpec : ChangeSpec := { name := "fnExactReachedWithout", fn := fun _ => fun
  | [d1, d2, d3] => { results := [.lit (.bool true)], args := [d1, d2, d3] }
  | _ => none }
def fnExactReachedWithoutRow : OpenClaim := { program := "ytkbkmpcdidhagaa", sum := "32f8a31d1bfc140df5771e6f96b0b286c49895909aef1f681fd8ddd301ca831e", func := "loop.example/g01011/laws.FnExactReachedWithout", spec := "fnExactReachedWithout", unfollowed := true, recurses := true, apart := false }
def FnExactReachedWithoutSaid : Prop := fnExactReachedWithoutRow.holds Try.pinned (OpenSpec.ofChange fnExactReachedWithoutSpec)

/-- ITS FALSE NEIGHBOUR: 'it returns false'. Refute it at one input. -/
def fnExactReachedWithoutWrong : ChangeSpec := { name := "fnExactReachedWithout", fn := fun _ => fun
  | [d1, d2, d3] => { results := [.lit (.bool false)], args := [d1, d2, d3] }
  | _ => none }
def FnExactReachedWithoutWrongFalsely : Prop := fnExactReachedWithoutRow.holds Try.pinned (OpenSpec.ofChange fnExactReachedWithoutWrong)

/-- 'laws.FnExactDropPipe': WHATEVER THE INPUT: true; the input reads as it did. -/
def fnExactDropPipeSpec : ChangeSpec := { name := "fnExactDropPipe", fn := fun _ => fun
  | [d1, d2] => { results := [.lit (.bool true)], args := [d1, d2] }
  | _ => none }
def fnExactDropPipeRow : OpenClaim := { program := "ytkbkmpcdidhagaa", sum := "32f8a31d1bfc140df5771e6f96b0b286c49895909aef1f681fd8ddd301ca831e", func := "loop.example/g01011/laws.FnExactDropPipe", spec := "fnExactDropPipe", unfollowed := true, recurses := true, apart := false }
def FnExactDropPipeSaid : Prop := fnExactDropPipeRow.holds Try.pinned (OpenSpec.ofChange fnExactDropPipeSpec)

/-- ITS FALSE NEIGHBOUR: 'it returns false'. Refute it at one input. -/
def fnExactDropPipeWrong : ChangeSpec := { name := "fnExactDropPipe", fn := fun _ => fun
  | [d1, d2] => { results := [.lit (.bool false)], args := [d1, d2] }
  | _ => none }
def FnExactDropPipeWrongFalsely : Prop := fnExactDropPipeRow.holds Try.pinned (OpenSpec.ofChange fnExactDropPipeWrong)

/-- 'laws.FnExactAddPipe': WHATEVER THE INPUT: true; the input reads as it did. -/
def fnExactAddPipeSpec : ChangeSpec := { name := "fnExactAddPipe", fn := fun _ => fun
  | [d1, d2] => { results := [.lit (.bool true)], args := [d1, d2] }
  | _ => none }
def fnExactAddPipeRow : OpenClaim := { program := "ytkbkmpcdidhagaa", sum := "32f8a31d1bfc140df5771e6f96b0b286c49895909aef1f681fd8ddd301ca831e", func := "loop.example/g01011/laws.FnExactAddPipe", spec := "fnExactAddPipe", inPlace := ["internal/bytealg.abigen_runtime_cmpstring"], unfollowed := true, recurses := true, apart := false }
def FnExactAddPipeSaid : Prop := fnExactAddPipeRow.holds Try.pinned (OpenSpec.ofChange fnExactAddPipeSpec)

/-- ITS FALSE NEIGHBOUR: 'it returns false'. Refute it at one input. -/
def fnExactAddPipeWrong : ChangeSpec := { name := "fnExactAddPipe", fn := fun _ => fun
  | [d1, d2] => { results := [.lit (.bool false)], args := [d1, d2] }
  | _ => none }
def FnExactAddPipeWrongFalsely : Prop := fnExactAddPipeRow.holds Try.pinned (OpenSpec.ofChange fnExactAddPipeWrong)

/- THE SECOND FORM. 'bulk': how many values and letters a reading holds, each counted each time it is reached (what is shared counts as often as it is met; a slice's spare places count too). A statement '..UptoSaid' is the law's where the arguments, and the package variables that the reading takes, are together of bulk at most 1048576: NARROWER than '..Said'. Prove '..Said' where nothing that the law and all that it calls make is longer than what came in: it says more and counts as full. Else prove '..UptoSaid'. A law counts once. -/
mutual
def uptoBulk {H : Type} : DataW H → Nat
  | .lit (.string bytes) => bytes.length + 1
  | .lit _ => 1
  | .nil => 1
  | .ptr d => uptoBulk d + 1
  | .slice elems spare => uptoBulkAll elems + uptoBulkAll spare + 1
  | .agg parts => uptoBulkAll parts + 1
  | .iface _ d => uptoBulk d + 1
  | .map entries => uptoBulkEntries entries + 1
  | .held _ => 1
def uptoBulkAll {H : Type} : List (DataW H) → Nat
  | [] => 0
  | d :: r => uptoBulk d + uptoBulkAll r
def uptoBulkEntries {H : Type} : List (Lit × DataW H) → Nat
  | [] => 0
  | x :: r => uptoBulkEntry x + uptoBulkEntries r
def uptoBulkEntry {H : Type} : Lit × DataW H → Nat
  | (.string bytes, d) => bytes.length + uptoBulk d + 1
  | (_, d) => uptoBulk d + 1
 end
def uptoSmall : (H : Type) → List (DataW H) → Bool := fun _ ds => decide (uptoBulkAll ds ≤ 1048576)
def OpenSpec.upto (s : _root_.Go.ChangeSpec) : _root_.Go.OpenSpec := { _root_.Go.OpenSpec.ofChange s with cond := some uptoSmall }

/-- 'laws.FnExactTreeFlows', WHERE WHAT IT READS IS OF BULK AT MOST 1048576: true; the input reads as it did. -/
def fnExactTreeFlowsUptoRow : OpenClaim := { program := "ytkbkmpcdidhagaa", sum := "32f8a31d1bfc140df5771e6f96b0b286c49895909aef1f681fd8ddd301ca831e", func := "loop.example/g01011/laws.FnExactTreeFlows", spec := "fnExactTreeFlows", unfollowed := true, recurses := true, apart := false, narrowed := true }
def FnExactTreeFlowsUptoSaid : Prop := fnExactTreeFlowsUptoRow.holds Try.pinned (OpenSpec.upto fnExactTreeFlowsSpec)

/-- 'laws.FnExactPressuresOf', WHERE WHAT IT READS IS OF BULK AT MOST 1048576: true; the input reads as it did. -/
def fnExactPressuresOfUptoRow : OpenClaim := { program := "ytkbkmpcdidhagaa", sum := "32f8a31d1bfc140df5771e6f96b0b286c49895909aef1f681fd8ddd301ca831e", func := "loop.example/g01011/laws.FnExactPressuresOf", spec := "fnExactPressuresOf", unfollowed := true, recurses := true, apart := false, narrowed := true }
def FnExactPressuresOfUptoSaid : Prop := fnExactPressuresOfUptoRow.holds Try.pinned (OpenSpec.upto fnExactPressuresOfSpec)

/-- 'laws.FnExactDifferencesOf', WHERE WHAT IT READS IS OF BULK AT MOST 1048576: true; the input reads as it did. -/
def fnExactDifferencesOfUptoRow : OpenClaim := { program := "ytkbkmpcdidhagaa", sum := "32f8a31d1bfc140df5771e6f96b0b286c49895909aef1f681fd8ddd301ca831e", func := "loop.example/g01011/laws.FnExactDifferencesOf", spec := "fnExactDifferencesOf", unfollowed := true, recurses := true, apart := false, narrowed := true }
def FnExactDifferencesOfUptoSaid : Prop := fnExactDifferencesOfUptoRow.holds Try.pinned (OpenSpec.upto fnExactDifferencesOfSpec)

/-- 'laws.FnExactLeastHead', WHERE WHAT IT READS IS OF BULK AT MOST 1048576: true; the input reads as it did. -/
def fnExactLeastHeadUptoRow : OpenClaim := { program := "ytkbkmpcdidhagaa", sum := "32f8a31d1bfc140df5771e6f96b0b286c49895909aef1f681fd8ddd301ca831e", func := "loop.example/g01011/laws.FnExactLeastHead", spec := "fnExactLeastHead", unfollowed := true, recurses := true, apart := false, narrowed := true }
def FnExactLeastHeadUptoSaid : Prop := fnExactLeastHeadUptoRow.holds Try.pinned (OpenSpec.upto fnExactLeastHeadSpec)

/-- 'laws.FnExactWorstNode', WHERE WHAT IT READS IS OF BULK AT MOST 1048576: true; the input reads as it did. -/
def fnExactWorstNodeUptoRow : OpenClaim := { program := "ytkbkmpcdidhagaa", sum := "32f8a31d1bfc140df5771e6f96b0b286c49895909aef1f681fd8ddd301ca831e", func := "loop.example/g01011/laws.FnExactWorstNode", spec := "fnExactWorstNode", unfollowed := true, recurses := true, apart := false, narrowed := true }
def FnExactWorstNodeUptoSaid : Prop := fnExactWorstNodeUptoRow.holds Try.pinned (OpenSpec.upto fnExactWorstNodeSpec)

/-- 'laws.FnExactNodeTemperatures', WHERE WHAT IT READS IS OF BULK AT MOST 1048576: true; the input reads as it did. -/
def fnExactNodeTemperaturesUptoRow : OpenClaim := { program := "ytkbkmpcdidhagaa", sum := "32f8a31d1bfc140df5771e6f96b0b286c49895909aef1f681fd8ddd301ca831e", func := "loop.example/g01011/laws.FnExactNodeTemperatures", spec := "fnExactNodeTemperatures", unfollowed := true, recurses := true, apart := false, narrowed := true }
def FnExactNodeTemperaturesUptoSaid : Prop := fnExactNodeTemperaturesUptoRow.holds Try.pinned (OpenSpec.upto fnExactNodeTemperaturesSpec)

/-- 'laws.FnExactMissingHours', WHERE WHAT IT READS IS OF BULK AT MOST 1048576: true; the input reads as it did. -/
def fnExactMissingHoursUptoRow : OpenClaim := { program := "ytkbkmpcdidhagaa", sum := "32f8a31d1bfc140df5771e6f96b0b286c49895909aef1f681fd8ddd301ca831e", func := "loop.example/g01011/laws.FnExactMissingHours", spec := "fnExactMissingHours", unfollowed := true, recurses := true, apart := false, narrowed := true }
def FnExactMissingHoursUptoSaid : Prop := fnExactMissingHoursUptoRow.holds Try.pinned (OpenSpec.upto fnExactMissingHoursSpec)

/-- 'laws.FnExactAddReading', WHERE WHAT IT READS IS OF BULK AT MOST 1048576: true; the input reads as it did. -/
def fnExactAddReadingUptoRow : OpenClaim := { program := "ytkbkmpcdidhagaa", sum := "32f8a31d1bfc140df5771e6f96b0b286c49895909aef1f681fd8ddd301ca831e", func := "loop.example/g01011/laws.FnExactAddReading", spec := "fnExactAddReading", inPlace := ["slices.overlaps[loop.example/g01011/impl.Reading]"], unfollowed := true, recurses := true, apart := false, narrowed := true }
def FnExactAddReadingUptoSaid : Prop := fnExactAddReadingUptoRow.holds Try.pinned (OpenSpec.upto fnExactAddReadingSpec)

/-- 'laws.FnExactPathOf', WHERE WHAT IT READS IS OF BULK AT MOST 1048576: true; the input reads as it did. -/
def fnExactPathOfUptoRow : OpenClaim := { program := "ytkbkmpcdidhagaa", sum := "32f8a31d1bfc140df5771e6f96b0b286c49895909aef1f681fd8ddd301ca831e", func := "loop.example/g01011/laws.FnExactPathOf", spec := "fnExactPathOf", unfollowed := true, recurses := true, apart := false, narrowed := true }
def FnExactPathOfUptoSaid : Prop := fnExactPathOfUptoRow.holds Try.pinned (OpenSpec.upto fnExactPathOfSpec)

/-- 'laws.FnExactReachedWithout', WHERE WHAT IT READS IS OF BULK AT MOST 1048576: true; the input reads as it did. -/
def fnExactReachedWithoutUptoRow : OpenClaim := { program := "ytkbkmpcdidhagaa", sum := "32f8a31d1bfc140df5771e6f96b0b286c49895909aef1f681fd8ddd301ca831e", func := "loop.example/g01011/laws.FnExactReachedWithout", spec := "fnExactReachedWithout", unfollowed := true, recurses := true, apart := false, narrowed := true }
def FnExactReachedWithoutUptoSaid : Prop := fnExactReachedWithoutUptoRow.holds Try.pinned (OpenSpec.upto fnExactReachedWithoutSpec)

/-- 'laws.FnExactDropPipe', WHERE WHAT IT READS IS OF BULK AT MOST 1048576: true; the input reads as it did. -/
def fnExactDropPipeUptoRow : OpenClaim := { program := "ytkbkmpcdidhagaa", sum := "32f8a31d1bfc140df5771e6f96b0b286c49895909aef1f681fd8ddd301ca831e", func := "loop.example/g01011/laws.FnExactDropPipe", spec := "fnExactDropPipe", unfollowed := true, recurses := true, apart := false, narrowed := true }
def FnExactDropPipeUptoSaid : Prop := fnExactDropPipeUptoRow.holds Try.pinned (OpenSpec.upto fnExactDropPipeSpec)

/-- 'laws.FnExactAddPipe', WHERE WHAT IT READS IS OF BULK AT MOST 1048576: true; the input reads as it did. -/
def fnExactAddPipeUptoRow : OpenClaim := { program := "ytkbkmpcdidhagaa", sum := "32f8a31d1bfc140df5771e6f96b0b286c49895909aef1f681fd8ddd301ca831e", func := "loop.example/g01011/laws.FnExactAddPipe", spec := "fnExactAddPipe", inPlace := ["internal/bytealg.abigen_runtime_cmpstring"], unfollowed := true, recurses := true, apart := false, narrowed := true }
def FnExactAddPipeUptoSaid : Prop := fnExactAddPipeUptoRow.holds Try.pinned (OpenSpec.upto fnExactAddPipeSpec)

end Rows
end Go.Proofs.Ytkbkmpcdidhagaa
