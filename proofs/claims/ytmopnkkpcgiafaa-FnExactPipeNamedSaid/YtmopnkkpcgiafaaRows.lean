/-
  No cell of these rows narrows 'for every input' (looked for: loops, veiled, ifaces, maps, wideKeys, modest, calm, conditions, laid).
  DERIVED. THE GIVEN ROWS OF THIS SEAT. 12 by the template 'for every input the law returns true; each argument reads behind the call as it read before'; 0 by the template 'total and deterministic' (their statements: YtmopnkkpcgiafaaTotals.lean).
  GIVEN WITH THE SEED: the statements are not yours to turn. If you find one false, say at which input.
  Laid BY PROGRAM, IN A SANDBOX (cutbox-rows.mjs): the forced cells as the released guide's own fill.sh prints them over the translation 0473257f472c79f2… (all of the seat's roots in one cut). By AI agents, Wed Nov 11 2026. No macro, syntax, notation, axiom, sorry.
-/
import Derived.Test.YtmopnkkpcgiafaaChecked
import GoSem.Claim
import GoSem.ClaimJoined
import GoSem.ClaimMapViews
import Derived.JoinedTies
import Derived.KernelRfl
namespace Go.Proofs.Ytmopnkkpcgiafaa
/- THE CELL 'sum', in the pinned program and in every row, IS THE sha256 OF THE DUMP (.gsa) THAT YtmopnkkpcgiafaaProg.lean LOADS. Nothing in Lean hashes anything: it is a label: what it is worth is what the hold of that sum in a sandbox is worth. -/
noncomputable def Try.pinned : Pinned := { name := "ytmopnkkpcgiafaa", sum := "0473257f472c79f2272962344c81d85373315ac31a9fbdf15a7acd832d8817f2", checked := Try.checked }
namespace Rows
def none {H : Type} : Left H := { results := [], args := [] }

/-- 'laws.FnExactValidNetwork': WHATEVER THE INPUT: true; the input reads as it did. -/
def fnExactValidNetworkSpec : ChangeSpec := { name := "fnExactValidNetwork", fn := fun _ => fun
  | [d] => { results := [.lit (.bool true)], args := [d] }
  | _ => none }
def fnExactValidNetworkRow : OpenClaim := { program := "ytmopnkkpcgiafaa", sum := "0473257f472c79f2272962344c81d85373315ac31a9fbdf15a7acd832d8817f2", func := "loop.example/g01011/laws.FnExactValidNetwork", spec := "fnExactValidNetwork", unfollowed := true, recurses := true, apart := false }
def FnExactValidNetworkSaid : Prop := fnExactValidNetworkRow.holds Try.pinned (OpenSpec.ofChange fnExactValidNetworkSpec)

/-- ITS FALSE NEIGHBOUR: 'it returns false'. Refute it at one input. -/
def fnExactValidNetworkWrong : ChangeSpec := { name := "fnExactValidNetwork", fn := fun _ => fun
  | [d] => { results := [.lit (.bool false)], args := [d] }
  | _ => none }
def FnExactValidNetworkWrongFalsely : Prop := fnExactValidNetworkRow.holds Try.pinned (OpenSpec.ofChange fnExactValidNetworkWrong)

/-- 'laws.FnExactSameNetwork': WHATEVER THE INPUT: true; the input reads as it did. -/
def fnExactSameNetworkSpec : ChangeSpec := { name := "fnExactSameNetwork", fn := fun _ => fun
  | [d1, d2] => { results := [.lit (.bool true)], args := [d1, d2] }
  | _ => none }
def fnExactSameNetworkRow : OpenClaim := { program := "ytmopnkkpcgiafaa", sum := "0473257f472c79f2272962344c81d85373315ac31a9fbdf15a7acd832d8817f2", func := "loop.example/g01011/laws.FnExactSameNetwork", spec := "fnExactSameNetwork", apart := false }
def FnExactSameNetworkSaid : Prop := fnExactSameNetworkRow.holds Try.pinned (OpenSpec.ofChange fnExactSameNetworkSpec)

/-- ITS FALSE NEIGHBOUR: 'it returns false'. Refute it at one input. -/
def fnExactSameNetworkWrong : ChangeSpec := { name := "fnExactSameNetwork", fn := fun _ => fun
  | [d1, d2] => { results := [.lit (.bool false)], args := [d1, d2] }
  | _ => none }
def FnExactSameNetworkWrongFalsely : Prop := fnExactSameNetworkRow.holds Try.pinned (OpenSpec.ofChange fnExactSameNetworkWrong)

/-- 'laws.FnExactPipeNamed': WHATEVER THE INPUT: true; the input reads as it did. -/
def fnExactPipeNamedSpec : ChangeSpec := { name := "fnExactPipeNamed", fn := fun _ => fun
  | [d1, d2] => { results := [.lit (.bool true)], args := [d1, d2] }
  | _ => none }
def fnExactPipeNamedRow : OpenClaim := { program := "ytmopnkkpcgiafaa", sum := "0473257f472c79f2272962344c81d85373315ac31a9fbdf15a7acd832d8817f2", func := "loop.example/g01011/laws.FnExactPipeNamed", spec := "fnExactPipeNamed", unfollowed := true, recurses := true, apart := false }
def FnExactPipeNamedSaid : Prop := fnExactPipeNamedRow.holds Try.pinned (OpenSpec.ofChange fnExactPipeNamedSpec)

/-- ITS FALSE NEIGHBOUR: 'it returns false'. Refute it at one input. -/
def fnExactPipeNamedWrong : ChangeSpec := { name := "fnExactPipeNamed", fn := fun _ => fun
  | [d1, d2] => { results := [.lit (.bool false)], args := [d1, d2] }
  | _ => none }
def FnExactPipeNamedWrongFalsely : Prop := fnExactPipeNamedRow.holds Try.pinned (OpenSpec.ofChange fnExactPipeNamedWrong)

/-- 'laws.FnExactAddPipe': WHATEVER THE INPUT: true; the input reads as it did. -/
def fnExactAddPipeSpec : ChangeSpec := { name := "fnExactAddPipe", fn := fun _ => fun
  | [d1, d2] => { results := [.lit (.bool true)], args := [d1, d2] }
  | _ => none }
def fnExactAddPipeRow : OpenClaim := { program := "ytmopnkkpcgiafaa", sum := "0473257f472c79f2272962344c81d85373315ac31a9fbdf15a7acd832d8817f2", func := "loop.example/g01011/laws.FnExactAddPipe", spec := "fnExactAddPipe", inPlace := ["internal/bytealg.abigen_runtime_cmpstring"], unfollowed := true, recurses := true, apart := false }
def FnExactAddPipeSaid : Prop := fnExactAddPipeRow.holds Try.pinned (OpenSpec.ofChange fnExactAddPipeSpec)

/-- ITS FALSE NEIGHBOUR: 'it returns false'. Refute it at one input. -/
def fnExactAddPipeWrong : ChangeSpec := { name := "fnExactAddPipe", fn := fun _ => fun
  | [d1, d2] => { results := [.lit (.bool false)], args := [d1, d2] }
  | _ => none }
def FnExactAddPipeWrongFalsely : Prop := fnExactAddPipeRow.holds Try.pinned (OpenSpec.ofChange fnExactAddPipeWrong)

/-- 'laws.FnExactDropPipe': WHATEVER THE INPUT: true; the input reads as it did. -/
def fnExactDropPipeSpec : ChangeSpec := { name := "fnExactDropPipe", fn := fun _ => fun
  | [d1, d2] => { results := [.lit (.bool true)], args := [d1, d2] }
  | _ => none }
def fnExactDropPipeRow : OpenClaim := { program := "ytmopnkkpcgiafaa", sum := "0473257f472c79f2272962344c81d85373315ac31a9fbdf15a7acd832d8817f2", func := "loop.example/g01011/laws.FnExactDropPipe", spec := "fnExactDropPipe", unfollowed := true, recurses := true, apart := false }
def FnExactDropPipeSaid : Prop := fnExactDropPipeRow.holds Try.pinned (OpenSpec.ofChange fnExactDropPipeSpec)

/-- ITS FALSE NEIGHBOUR: 'it returns false'. Refute it at one input. -/
def fnExactDropPipeWrong : ChangeSpec := { name := "fnExactDropPipe", fn := fun _ => fun
  | [d1, d2] => { results := [.lit (.bool false)], args := [d1, d2] }
  | _ => none }
def FnExactDropPipeWrongFalsely : Prop := fnExactDropPipeRow.holds Try.pinned (OpenSpec.ofChange fnExactDropPipeWrong)

/-- 'laws.FnExactPipesAt': WHATEVER THE INPUT: true; the input reads as it did. -/
def fnExactPipesAtSpec : ChangeSpec := { name := "fnExactPipesAt", fn := fun _ => fun
  | [d1, d2] => { results := [.lit (.bool true)], args := [d1, d2] }
  | _ => none }
def fnExactPipesAtRow : OpenClaim := { program := "ytmopnkkpcgiafaa", sum := "0473257f472c79f2272962344c81d85373315ac31a9fbdf15a7acd832d8817f2", func := "loop.example/g01011/laws.FnExactPipesAt", spec := "fnExactPipesAt", unfollowed := true, recurses := true, apart := false }
def FnExactPipesAtSaid : Prop := fnExactPipesAtRow.holds Try.pinned (OpenSpec.ofChange fnExactPipesAtSpec)

/-- ITS FALSE NEIGHBOUR: 'it returns false'. Refute it at one input. -/
def fnExactPipesAtWrong : ChangeSpec := { name := "fnExactPipesAt", fn := fun _ => fun
  | [d1, d2] => { results := [.lit (.bool false)], args := [d1, d2] }
  | _ => none }
def FnExactPipesAtWrongFalsely : Prop := fnExactPipesAtRow.holds Try.pinned (OpenSpec.ofChange fnExactPipesAtWrong)

/-- 'laws.FnExactNetworkParts': WHATEVER THE INPUT: true; the input reads as it did. -/
def fnExactNetworkPartsSpec : ChangeSpec := { name := "fnExactNetworkParts", fn := fun _ => fun
  | [d] => { results := [.lit (.bool true)], args := [d] }
  | _ => none }
def fnExactNetworkPartsRow : OpenClaim := { program := "ytmopnkkpcgiafaa", sum := "0473257f472c79f2272962344c81d85373315ac31a9fbdf15a7acd832d8817f2", func := "loop.example/g01011/laws.FnExactNetworkParts", spec := "fnExactNetworkParts", unfollowed := true, recurses := true, apart := false }
def FnExactNetworkPartsSaid : Prop := fnExactNetworkPartsRow.holds Try.pinned (OpenSpec.ofChange fnExactNetworkPartsSpec)

/-- ITS FALSE NEIGHBOUR: 'it returns false'. Refute it at one input. -/
def fnExactNetworkPartsWrong : ChangeSpec := { name := "fnExactNetworkParts", fn := fun _ => fun
  | [d] => { results := [.lit (.bool false)], args := [d] }
  | _ => none }
def FnExactNetworkPartsWrongFalsely : Prop := fnExactNetworkPartsRow.holds Try.pinned (OpenSpec.ofChange fnExactNetworkPartsWrong)

/-- 'laws.FnExactIsTree': WHATEVER THE INPUT: true; the input reads as it did. -/
def fnExactIsTreeSpec : ChangeSpec := { name := "fnExactIsTree", fn := fun _ => fun
  | [d] => { results := [.lit (.bool true)], args := [d] }
  | _ => none }
def fnExactIsTreeRow : OpenClaim := { program := "ytmopnkkpcgiafaa", sum := "0473257f472c79f2272962344c81d85373315ac31a9fbdf15a7acd832d8817f2", func := "loop.example/g01011/laws.FnExactIsTree", spec := "fnExactIsTree", unfollowed := true, recurses := true, apart := false }
def FnExactIsTreeSaid : Prop := fnExactIsTreeRow.holds Try.pinned (OpenSpec.ofChange fnExactIsTreeSpec)

/-- ITS FALSE NEIGHBOUR: 'it returns false'. Refute it at one input. -/
def fnExactIsTreeWrong : ChangeSpec := { name := "fnExactIsTree", fn := fun _ => fun
  | [d] => { results := [.lit (.bool false)], args := [d] }
  | _ => none }
def FnExactIsTreeWrongFalsely : Prop := fnExactIsTreeRow.holds Try.pinned (OpenSpec.ofChange fnExactIsTreeWrong)

/-- 'laws.FnExactNetworkTree': WHATEVER THE INPUT: true; the input reads as it did. -/
def fnExactNetworkTreeSpec : ChangeSpec := { name := "fnExactNetworkTree", fn := fun _ => fun
  | [d] => { results := [.lit (.bool true)], args := [d] }
  | _ => none }
def fnExactNetworkTreeRow : OpenClaim := { program := "ytmopnkkpcgiafaa", sum := "0473257f472c79f2272962344c81d85373315ac31a9fbdf15a7acd832d8817f2", func := "loop.example/g01011/laws.FnExactNetworkTree", spec := "fnExactNetworkTree", unfollowed := true, recurses := true, apart := false }
def FnExactNetworkTreeSaid : Prop := fnExactNetworkTreeRow.holds Try.pinned (OpenSpec.ofChange fnExactNetworkTreeSpec)

/-- ITS FALSE NEIGHBOUR: 'it returns false'. Refute it at one input. -/
def fnExactNetworkTreeWrong : ChangeSpec := { name := "fnExactNetworkTree", fn := fun _ => fun
  | [d] => { results := [.lit (.bool false)], args := [d] }
  | _ => none }
def FnExactNetworkTreeWrongFalsely : Prop := fnExactNetworkTreeRow.holds Try.pinned (OpenSpec.ofChange fnExactNetworkTreeWrong)

/-- 'laws.FnExactBridgePipes': WHATEVER THE INPUT: true; the input reads as it did. -/
def fnExactBridgePipesSpec : ChangeSpec := { name := "fnExactBridgePipes", fn := fun _ => fun
  | [d] => { results := [.lit (.bool true)], args := [d] }
  | _ => none }
def fnExactBridgePipesRow : OpenClaim := { program := "ytmopnkkpcgiafaa", sum := "0473257f472c79f2272962344c81d85373315ac31a9fbdf15a7acd832d8817f2", func := "loop.example/g01011/laws.FnExactBridgePipes", spec := "fnExactBridgePipes", unfollowed := true, recurses := true, apart := false }
def FnExactBridgePipesSaid : Prop := fnExactBridgePipesRow.holds Try.pinned (OpenSpec.ofChange fnExactBridgePipesSpec)

/-- ITS FALSE NEIGHBOUR: 'it returns false'. Refute it at one input. -/
def fnExactBridgePipesWrong : ChangeSpec := { name := "fnExactBridgePipes", fn := fun _ => fun
  | [d] => { results := [.lit (.bool false)], args := [d] }
  | _ => none }
def FnExactBridgePipesWrongFalsely : Prop := fnExactBridgePipesRow.holds Try.pinned (OpenSpec.ofChange fnExactBridgePipesWrong)

/-- 'laws.FnExactPathOf': WHATEVER THE INPUT: true; the input reads as it did. -/
def fnExactPathOfSpec : ChangeSpec := { name := "fnExactPathOf", fn := fun _ => fun
  | [d1, d2, d3] => { results := [.lit (.bool true)], args := [d1, d2, d3] }
  | _ => none }
def fnExactPathOfRow : OpenClaim := { program := "ytmopnkkpcgiafaa", sum := "0473257f472c79f2272962344c81d85373315ac31a9fbdf15a7acd832d8817f2", func := "loop.example/g01011/laws.FnExactPathOf", spec := "fnExactPathOf", unfollowed := true, recurses := true, apart := false }
def FnExactPathOfSaid : Prop := fnExactPathOfRow.holds Try.pinned (OpenSpec.ofChange fnExactPathOfSpec)

/-- ITS FALSE NEIGHBOUR: 'it returns false'. Refute it at one input. -/
def fnExactPathOfWrong : ChangeSpec := { name := "fnExactPathOf", fn := fun _ => fun
  | [d1, d2, d3] => { results := [.lit (.bool false)], args := [d1, d2, d3] }
  | _ => none }
def FnExactPathOfWrongFalsely : Prop := fnExactPathOfRow.holds Try.pinned (OpenSpec.ofChange fnExactPathOfWrong)

/-- 'laws.FnExactReachedWithout': WHATEVER THE INPUT: true; the input reads as it did. -/
def fnExactReachedWithoutSpec : ChangeSpec := { name := "fnExactReachedWithout", fn := fun _ => fun
  | [d1, d2, d3] => { results := [.lit (.bool true)], args := [d1, d2, d3] }
  | _ => none }
def fnExactReachedWithoutRow : OpenClaim := { program := "ytmopnkkpcgiafaa", sum := "0473257f472c79f2272962344c81d85373315ac31a9fbdf15a7acd832d8817f2", func := "loop.example/g01011/laws.FnExactReachedWithout", spec := "fnExactReachedWithout", unfollowed := true, recurses := true, apart := false }
def FnExactReachedWithoutSaid : Prop := fnExactReachedWithoutRow.holds Try.pinned (OpenSpec.ofChange fnExactReachedWithoutSpec)

/-- ITS FALSE NEIGHBOUR: 'it returns false'. Refute it at one input. -/
def fnExactReachedWithoutWrong : ChangeSpec := { name := "fnExactReachedWithout", fn := fun _ => fun
  | [d1, d2, d3] => { results := [.lit (.bool false)], args := [d1, d2, d3] }
  | _ => none }
def FnExactReachedWithoutWrongFalsely : Prop := fnExactReachedWithoutRow.holds Try.pinned (OpenSpec.ofChange fnExactReachedWithoutWrong)

/- THE SECOND FORM. 'bulk': how many values and letters a reading holds, each counted each time it is reached (what is shared counts as often as it is met; a slice's spare places count too). A statement '..UptoSaid' is the law's where the arguments, and the package variables that the reading takes, are together of bulk at most 1048576: NARROWER than '..Said'. Prove '..Said' where nothing that the law and all that it calls make is longer than what came in: it says more and counts as full. Else prove '..UptoSaid'. A law counts once. -/
mutual
def uptoBulk {H : Type} : DataW H → Nat
  | .lit (.string bytes) => bytes.length + 1
  | .lit _ => 1
  | .nil => 1
  | .ptr d => uptoBulk d + 1
  | .slice elems spare => uptoBulkAll elems + uptoBulkAll spare + 1
  | .agg parts => uptoBulkAll parts + 1
  | .iface _ d => uptoBulk d + 1
  | .map entries => uptoBulkEntries entries + 1
  | .held _ => 1
def uptoBulkAll {H : Type} : List (DataW H) → Nat
  | [] => 0
  | d :: r => uptoBulk d + uptoBulkAll r
def uptoBulkEntries {H : Type} : List (Lit × DataW H) → Nat
  | [] => 0
  | x :: r => uptoBulkEntry x + uptoBulkEntries r
def uptoBulkEntry {H : Type} : Lit × DataW H → Nat
  | (.string bytes, d) => bytes.length + uptoBulk d + 1
  | (_, d) => uptoBulk d + 1
 end
def uptoSmall : (H : Type) → List (DataW H) → Bool := fun _ ds => decide (uptoBulkAll ds ≤ 1048576)
def OpenSpec.upto (s : _root_.Go.ChangeSpec) : _root_.Go.OpenSpec := { _root_.Go.OpenSpec.ofChange s with cond := some uptoSmall }

/-- 'laws.FnExactValidNetwork', WHERE WHAT IT READS IS OF BULK AT MOST 1048576: true; the input reads as it did. -/
def fnExactValidNetworkUptoRow : OpenClaim := { program := "ytmopnkkpcgiafaa", sum := "0473257f472c79f2272962344c81d85373315ac31a9fbdf15a7acd832d8817f2", func := "loop.example/g01011/laws.FnExactValidNetwork", spec := "fnExactValidNetwork", unfollowed := true, recurses := true, apart := false, narrowed := true }
def FnExactValidNetworkUptoSaid : Prop := fnExactValidNetworkUptoRow.holds Try.pinned (OpenSpec.upto fnExactValidNetworkSpec)

/-- 'laws.FnExactSameNetwork', WHERE WHAT IT READS IS OF BULK AT MOST 1048576: true; the input reads as it did. -/
def fnExactSameNetworkUptoRow : OpenClaim := { program := "ytmopnkkpcgiafaa", sum := "0473257f472c79f2272962344c81d85373315ac31a9fbdf15a7acd832d8817f2", func := "loop.example/g01011/laws.FnExactSameNetwork", spec := "fnExactSameNetwork", apart := false, narrowed := true }
def FnExactSameNetworkUptoSaid : Prop := fnExactSameNetworkUptoRow.holds Try.pinned (OpenSpec.upto fnExactSameNetworkSpec)

/-- 'laws.FnExactPipeNamed', WHERE WHAT IT READS IS OF BULK AT MOST 1048576: true; the input reads as it did. -/
def fnExactPipeNamedUptoRow : OpenClaim := { program := "ytmopnkkpcgiafaa", sum := "0473257f472c79f2272962344c81d85373315ac31a9fbdf15a7acd832d8817f2", func := "loop.example/g01011/laws.FnExactPipeNamed", spec := "fnExactPipeNamed", unfollowed := true, recurses := true, apart := false, narrowed := true }
def FnExactPipeNamedUptoSaid : Prop := fnExactPipeNamedUptoRow.holds Try.pinned (OpenSpec.upto fnExactPipeNamedSpec)

/-- 'laws.FnExactAddPipe', WHERE WHAT IT READS IS OF BULK AT MOST 1048576: true; the input reads as it did. -/
def fnExactAddPipeUptoRow : OpenClaim := { program := "ytmopnkkpcgiafaa", sum := "0473257f472c79f2272962344c81d85373315ac31a9fbdf15a7acd832d8817f2", func := "loop.example/g01011/laws.FnExactAddPipe", spec := "fnExactAddPipe", inPlace := ["internal/bytealg.abigen_runtime_cmpstring"], unfollowed := true, recurses := true, apart := false, narrowed := true }
def FnExactAddPipeUptoSaid : Prop := fnExactAddPipeUptoRow.holds Try.pinned (OpenSpec.upto fnExactAddPipeSpec)

/-- 'laws.FnExactDropPipe', WHERE WHAT IT READS IS OF BULK AT MOST 1048576: true; the input reads as it did. -/
def fnExactDropPipeUptoRow : OpenClaim := { program := "ytmopnkkpcgiafaa", sum := "0473257f472c79f2272962344c81d85373315ac31a9fbdf15a7acd832d8817f2", func := "loop.example/g01011/laws.FnExactDropPipe", spec := "fnExactDropPipe", unfollowed := true, recurses := true, apart := false, narrowed := true }
def FnExactDropPipeUptoSaid : Prop := fnExactDropPipeUptoRow.holds Try.pinned (OpenSpec.upto fnExactDropPipeSpec)

/-- 'laws.FnExactPipesAt', WHERE WHAT IT READS IS OF BULK AT MOST 1048576: true; the input reads as it did. -/
def fnExactPipesAtUptoRow : OpenClaim := { program := "ytmopnkkpcgiafaa", sum := "0473257f472c79f2272962344c81d85373315ac31a9fbdf15a7acd832d8817f2", func := "loop.example/g01011/laws.FnExactPipesAt", spec := "fnExactPipesAt", unfollowed := true, recurses := true, apart := false, narrowed := true }
def FnExactPipesAtUptoSaid : Prop := fnExactPipesAtUptoRow.holds Try.pinned (OpenSpec.upto fnExactPipesAtSpec)

/-- 'laws.FnExactNetworkParts', WHERE WHAT IT READS IS OF BULK AT MOST 1048576: true; the input reads as it did. -/
def fnExactNetworkPartsUptoRow : OpenClaim := { program := "ytmopnkkpcgiafaa", sum := "0473257f472c79f2272962344c81d85373315ac31a9fbdf15a7acd832d8817f2", func := "loop.example/g01011/laws.FnExactNetworkParts", spec := "fnExactNetworkParts", unfollowed := true, recurses := true, apart := false, narrowed := true }
def FnExactNetworkPartsUptoSaid : Prop := fnExactNetworkPartsUptoRow.holds Try.pinned (OpenSpec.upto fnExactNetworkPartsSpec)

/-- 'laws.FnExactIsTree', WHERE WHAT IT READS IS OF BULK AT MOST 1048576: true; the input reads as it did. -/
def fnExactIsTreeUptoRow : OpenClaim := { program := "ytmopnkkpcgiafaa", sum := "0473257f472c79f2272962344c81d85373315ac31a9fbdf15a7acd832d8817f2", func := "loop.example/g01011/laws.FnExactIsTree", spec := "fnExactIsTree", unfollowed := true, recurses := true, apart := false, narrowed := true }
def FnExactIsTreeUptoSaid : Prop := fnExactIsTreeUptoRow.holds Try.pinned (OpenSpec.upto fnExactIsTreeSpec)

/-- 'laws.FnExactNetworkTree', WHERE WHAT IT READS IS OF BULK AT MOST 1048576: true; the input reads as it did. -/
def fnExactNetworkTreeUptoRow : OpenClaim := { program := "ytmopnkkpcgiafaa", sum := "0473257f472c79f2272962344c81d85373315ac31a9fbdf15a7acd832d8817f2", func := "loop.example/g01011/laws.FnExactNetworkTree", spec := "fnExactNetworkTree", unfollowed := true, recurses := true, apart := false, narrowed := true }
def FnExactNetworkTreeUptoSaid : Prop := fnExactNetworkTreeUptoRow.holds Try.pinned (OpenSpec.upto fnExactNetworkTreeSpec)

/-- 'laws.FnExactBridgePipes', WHERE WHAT IT READS IS OF BULK AT MOST 1048576: true; the input reads as it did. -/
def fnExactBridgePipesUptoRow : OpenClaim := { program := "ytmopnkkpcgiafaa", sum := "0473257f472c79f2272962344c81d85373315ac31a9fbdf15a7acd832d8817f2", func := "loop.example/g01011/laws.FnExactBridgePipes", spec := "fnExactBridgePipes", unfollowed := true, recurses := true, apart := false, narrowed := true }
def FnExactBridgePipesUptoSaid : Prop := fnExactBridgePipesUptoRow.holds Try.pinned (OpenSpec.upto fnExactBridgePipesSpec)

/-- 'laws.FnExactPathOf', WHERE WHAT IT READS IS OF BULK AT MOST 1048576: true; the input reads as it did. -/
def fnExactPathOfUptoRow : OpenClaim := { program := "ytmopnkkpcgiafaa", sum := "0473257f472c79f2272962344c81d85373315ac31a9fbdf15a7acd832d8817f2", func := "loop.example/g01011/laws.FnExactPathOf", spec := "fnExactPathOf", unfollowed := true, recurses := true, apart := false, narrowed := true }
def FnExactPathOfUptoSaid : Prop := fnExactPathOfUptoRow.holds Try.pinned (OpenSpec.upto fnExactPathOfSpec)

/-- 'laws.FnExactReachedWithout', WHERE WHAT IT READS IS OF BULK AT MOST 1048576: true; the input reads as it did. -/
def fnExactReachedWithoutUptoRow : OpenClaim := { program := "ytmopnkkpcgiafaa", sum := "0473257f472c79f2272962344c81d85373315ac31a9fbdf15a7acd832d8817f2", func := "loop.example/g01011/laws.FnExactReachedWithout", spec := "fnExactReachedWithout", unfollowed := true, recurses := true, apart := false, narrowed := true }
def FnExactReachedWithoutUptoSaid : Prop := fnExactReachedWithoutUptoRow.holds Try.pinned (OpenSpec.upto fnExactReachedWithoutSpec)

end Rows
end Go.Proofs.Ytmopnkkpcgiafaa
