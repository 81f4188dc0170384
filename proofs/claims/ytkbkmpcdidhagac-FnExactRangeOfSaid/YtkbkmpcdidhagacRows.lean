/-
  No cell of these rows narrows 'for every input' (looked for: loops, veiled, ifaces, maps, wideKeys, modest, calm, conditions, laid).
  DERIVED. THE GIVEN ROWS OF THIS SEAT. 10 by the template 'for every input the law returns true; each argument reads behind the call as it read before'; 0 by the template 'total and deterministic' (their statements: YtkbkmpcdidhagacTotals.lean).
  GIVEN WITH THE SEED: the statements are not yours to turn. If you find one false, say at which input.
  Laid BY PROGRAM, IN A SANDBOX (cutbox-rows.mjs): the forced cells as the released guide's own fill.sh prints them over the translation c2e9d57a5ca813e7… (all of the seat's roots in one cut). By AI agents, Wed Nov 11 2026. No macro, syntax, notation, axiom, sorry.
-/
import Derived.Test.YtkbkmpcdidhagacChecked
import GoSem.Claim
import GoSem.ClaimJoined
import GoSem.ClaimMapViews
import Derived.JoinedTies
import Derived.KernelRfl
namespace Go.Proofs.Ytkbkmpcdidhagac
/- THE CELL 'sum', in the pinned program and in every row, IS THE sha256 OF THE DUMP (.gsa) THAT YtkbkmpcdidhagacProg.lean LOADS. Nothing in Lean hashes anything: it is a label: what it is worth is what the hold of that sum in a sandbox is worth. -/
noncomputable def Try.pinned : Pinned := { name := "ytkbkmpcdidhagac", sum := "c2e9d57a5ca813e75e056fff04eebb0c0be20f98b5ceaf615eec2c6d3f26cfd7", checked := Try.checked }
namespace Rows
def none {H : Type} : Left H := { results := [], args := [] }

/-- 'laws.FnExactValidWave': WHATEVER THE INPUT: true; the input reads as it did. -/
def fnExactValidWaveSpec : ChangeSpec := { name := "fnExactValidWave", fn := fun _ => fun
  | [d] => { results := [.lit (.bool true)], args := [d] }
  | _ => none }
def fnExactValidWaveRow : OpenClaim := { program := "ytkbkmpcdidhagac", sum := "c2e9d57a5ca813e75e056fff04eebb0c0be20f98b5ceaf615eec2c6d3f26cfd7", func := "loop.example/g01011/laws.FnExactValidWave", spec := "fnExactValidWave", unfollowed := true, recurses := true, apart := false }
def FnExactValidWaveSaid : Prop := fnExactValidWaveRow.holds Try.pinned (OpenSpec.ofChange fnExactValidWaveSpec)

/-- ITS FALSE NEIGHBOUR: 'it returns false'. Refute it at one input. -/
def fnExactValidWaveWrong : ChangeSpec := { name := "fnExactValidWave", fn := fun _ => fun
  | [d] => { results := [.lit (.bool false)], args := [d] }
  | _ => none }
def FnExactValidWaveWrongFalsely : Prop := fnExactValidWaveRow.holds Try.pinned (OpenSpec.ofChange fnExactValidWaveWrong)

/-- 'laws.FnExactSameWave': WHATEVER THE INPUT: true; the input reads as it did. -/
def fnExactSameWaveSpec : ChangeSpec := { name := "fnExactSameWave", fn := fun _ => fun
  | [d1, d2] => { results := [.lit (.bool true)], args := [d1, d2] }
  | _ => none }
def fnExactSameWaveRow : OpenClaim := { program := "ytkbkmpcdidhagac", sum := "c2e9d57a5ca813e75e056fff04eebb0c0be20f98b5ceaf615eec2c6d3f26cfd7", func := "loop.example/g01011/laws.FnExactSameWave", spec := "fnExactSameWave", apart := false }
def FnExactSameWaveSaid : Prop := fnExactSameWaveRow.holds Try.pinned (OpenSpec.ofChange fnExactSameWaveSpec)

/-- ITS FALSE NEIGHBOUR: 'it returns false'. Refute it at one input. -/
def fnExactSameWaveWrong : ChangeSpec := { name := "fnExactSameWave", fn := fun _ => fun
  | [d1, d2] => { results := [.lit (.bool false)], args := [d1, d2] }
  | _ => none }
def FnExactSameWaveWrongFalsely : Prop := fnExactSameWaveRow.holds Try.pinned (OpenSpec.ofChange fnExactSameWaveWrong)

/-- 'laws.FnExactWaveAt': WHATEVER THE INPUT: true; the input reads as it did. -/
def fnExactWaveAtSpec : ChangeSpec := { name := "fnExactWaveAt", fn := fun _ => fun
  | [d1, d2] => { results := [.lit (.bool true)], args := [d1, d2] }
  | _ => none }
def fnExactWaveAtRow : OpenClaim := { program := "ytkbkmpcdidhagac", sum := "c2e9d57a5ca813e75e056fff04eebb0c0be20f98b5ceaf615eec2c6d3f26cfd7", func := "loop.example/g01011/laws.FnExactWaveAt", spec := "fnExactWaveAt", unfollowed := true, recurses := true, apart := false }
def FnExactWaveAtSaid : Prop := fnExactWaveAtRow.holds Try.pinned (OpenSpec.ofChange fnExactWaveAtSpec)

/-- ITS FALSE NEIGHBOUR: 'it returns false'. Refute it at one input. -/
def fnExactWaveAtWrong : ChangeSpec := { name := "fnExactWaveAt", fn := fun _ => fun
  | [d1, d2] => { results := [.lit (.bool false)], args := [d1, d2] }
  | _ => none }
def FnExactWaveAtWrongFalsely : Prop := fnExactWaveAtRow.holds Try.pinned (OpenSpec.ofChange fnExactWaveAtWrong)

/-- 'laws.FnExactDelayWave': WHATEVER THE INPUT: true; the input reads as it did. -/
def fnExactDelayWaveSpec : ChangeSpec := { name := "fnExactDelayWave", fn := fun _ => fun
  | [d1, d2, d3] => { results := [.lit (.bool true)], args := [d1, d2, d3] }
  | _ => none }
def fnExactDelayWaveRow : OpenClaim := { program := "ytkbkmpcdidhagac", sum := "c2e9d57a5ca813e75e056fff04eebb0c0be20f98b5ceaf615eec2c6d3f26cfd7", func := "loop.example/g01011/laws.FnExactDelayWave", spec := "fnExactDelayWave", unfollowed := true, recurses := true, apart := false }
def FnExactDelayWaveSaid : Prop := fnExactDelayWaveRow.holds Try.pinned (OpenSpec.ofChange fnExactDelayWaveSpec)

/-- ITS FALSE NEIGHBOUR: 'it returns false'. Refute it at one input. -/
def fnExactDelayWaveWrong : ChangeSpec := { name := "fnExactDelayWave", fn := fun _ => fun
  | [d1, d2, d3] => { results := [.lit (.bool false)], args := [d1, d2, d3] }
  | _ => none }
def FnExactDelayWaveWrongFalsely : Prop := fnExactDelayWaveRow.holds Try.pinned (OpenSpec.ofChange fnExactDelayWaveWrong)

/-- 'laws.FnExactTrimWave': WHATEVER THE INPUT: true; the input reads as it did. -/
def fnExactTrimWaveSpec : ChangeSpec := { name := "fnExactTrimWave", fn := fun _ => fun
  | [d] => { results := [.lit (.bool true)], args := [d] }
  | _ => none }
def fnExactTrimWaveRow : OpenClaim := { program := "ytkbkmpcdidhagac", sum := "c2e9d57a5ca813e75e056fff04eebb0c0be20f98b5ceaf615eec2c6d3f26cfd7", func := "loop.example/g01011/laws.FnExactTrimWave", spec := "fnExactTrimWave", unfollowed := true, recurses := true, apart := false }
def FnExactTrimWaveSaid : Prop := fnExactTrimWaveRow.holds Try.pinned (OpenSpec.ofChange fnExactTrimWaveSpec)

/-- ITS FALSE NEIGHBOUR: 'it returns false'. Refute it at one input. -/
def fnExactTrimWaveWrong : ChangeSpec := { name := "fnExactTrimWave", fn := fun _ => fun
  | [d] => { results := [.lit (.bool false)], args := [d] }
  | _ => none }
def FnExactTrimWaveWrongFalsely : Prop := fnExactTrimWaveRow.holds Try.pinned (OpenSpec.ofChange fnExactTrimWaveWrong)

/-- 'laws.FnExactMixWaves': WHATEVER THE INPUT: true; the input reads as it did. -/
def fnExactMixWavesSpec : ChangeSpec := { name := "fnExactMixWaves", fn := fun _ => fun
  | [d1, d2] => { results := [.lit (.bool true)], args := [d1, d2] }
  | _ => none }
def fnExactMixWavesRow : OpenClaim := { program := "ytkbkmpcdidhagac", sum := "c2e9d57a5ca813e75e056fff04eebb0c0be20f98b5ceaf615eec2c6d3f26cfd7", func := "loop.example/g01011/laws.FnExactMixWaves", spec := "fnExactMixWaves", unfollowed := true, recurses := true, apart := false }
def FnExactMixWavesSaid : Prop := fnExactMixWavesRow.holds Try.pinned (OpenSpec.ofChange fnExactMixWavesSpec)

/-- ITS FALSE NEIGHBOUR: 'it returns false'. Refute it at one input. -/
def fnExactMixWavesWrong : ChangeSpec := { name := "fnExactMixWaves", fn := fun _ => fun
  | [d1, d2] => { results := [.lit (.bool false)], args := [d1, d2] }
  | _ => none }
def FnExactMixWavesWrongFalsely : Prop := fnExactMixWavesRow.holds Try.pinned (OpenSpec.ofChange fnExactMixWavesWrong)

/-- 'laws.FnExactThroughPipe': WHATEVER THE INPUT: true; the input reads as it did. -/
def fnExactThroughPipeSpec : ChangeSpec := { name := "fnExactThroughPipe", fn := fun _ => fun
  | [d1, d2, d3, d4, d5] => { results := [.lit (.bool true)], args := [d1, d2, d3, d4, d5] }
  | _ => none }
def fnExactThroughPipeRow : OpenClaim := { program := "ytkbkmpcdidhagac", sum := "c2e9d57a5ca813e75e056fff04eebb0c0be20f98b5ceaf615eec2c6d3f26cfd7", func := "loop.example/g01011/laws.FnExactThroughPipe", spec := "fnExactThroughPipe", unfollowed := true, recurses := true, apart := false }
def FnExactThroughPipeSaid : Prop := fnExactThroughPipeRow.holds Try.pinned (OpenSpec.ofChange fnExactThroughPipeSpec)

/-- ITS FALSE NEIGHBOUR: 'it returns false'. Refute it at one input. -/
def fnExactThroughPipeWrong : ChangeSpec := { name := "fnExactThroughPipe", fn := fun _ => fun
  | [d1, d2, d3, d4, d5] => { results := [.lit (.bool false)], args := [d1, d2, d3, d4, d5] }
  | _ => none }
def FnExactThroughPipeWrongFalsely : Prop := fnExactThroughPipeRow.holds Try.pinned (OpenSpec.ofChange fnExactThroughPipeWrong)

/-- 'laws.FnExactFirstWarm': WHATEVER THE INPUT: true; the input reads as it did. -/
def fnExactFirstWarmSpec : ChangeSpec := { name := "fnExactFirstWarm", fn := fun _ => fun
  | [d1, d2] => { results := [.lit (.bool true)], args := [d1, d2] }
  | _ => none }
def fnExactFirstWarmRow : OpenClaim := { program := "ytkbkmpcdidhagac", sum := "c2e9d57a5ca813e75e056fff04eebb0c0be20f98b5ceaf615eec2c6d3f26cfd7", func := "loop.example/g01011/laws.FnExactFirstWarm", spec := "fnExactFirstWarm", unfollowed := true, recurses := true, apart := false }
def FnExactFirstWarmSaid : Prop := fnExactFirstWarmRow.holds Try.pinned (OpenSpec.ofChange fnExactFirstWarmSpec)

/-- ITS FALSE NEIGHBOUR: 'it returns false'. Refute it at one input. -/
def fnExactFirstWarmWrong : ChangeSpec := { name := "fnExactFirstWarm", fn := fun _ => fun
  | [d1, d2] => { results := [.lit (.bool false)], args := [d1, d2] }
  | _ => none }
def FnExactFirstWarmWrongFalsely : Prop := fnExactFirstWarmRow.holds Try.pinned (OpenSpec.ofChange fnExactFirstWarmWrong)

/-- 'laws.FnExactMeanOf': WHATEVER THE INPUT: true; the input reads as it did. -/
def fnExactMeanOfSpec : ChangeSpec := { name := "fnExactMeanOf", fn := fun _ => fun
  | [d1, d2, d3] => { results := [.lit (.bool true)], args := [d1, d2, d3] }
  | _ => none }
def fnExactMeanOfRow : OpenClaim := { program := "ytkbkmpcdidhagac", sum := "c2e9d57a5ca813e75e056fff04eebb0c0be20f98b5ceaf615eec2c6d3f26cfd7", func := "loop.example/g01011/laws.FnExactMeanOf", spec := "fnExactMeanOf", unfollowed := true, recurses := true, apart := false }
def FnExactMeanOfSaid : Prop := fnExactMeanOfRow.holds Try.pinned (OpenSpec.ofChange fnExactMeanOfSpec)

/-- ITS FALSE NEIGHBOUR: 'it returns false'. Refute it at one input. -/
def fnExactMeanOfWrong : ChangeSpec := { name := "fnExactMeanOf", fn := fun _ => fun
  | [d1, d2, d3] => { results := [.lit (.bool false)], args := [d1, d2, d3] }
  | _ => none }
def FnExactMeanOfWrongFalsely : Prop := fnExactMeanOfRow.holds Try.pinned (OpenSpec.ofChange fnExactMeanOfWrong)

/-- 'laws.FnExactRangeOf': WHATEVER THE INPUT: true; the input reads as it did. -/
def fnExactRangeOfSpec : ChangeSpec := { name := "fnExactRangeOf", fn := fun _ => fun
  | [d] => { results := [.lit (.bool true)], args := [d] }
  | _ => none }
def fnExactRangeOfRow : OpenClaim := { program := "ytkbkmpcdidhagac", sum := "c2e9d57a5ca813e75e056fff04eebb0c0be20f98b5ceaf615eec2c6d3f26cfd7", func := "loop.example/g01011/laws.FnExactRangeOf", spec := "fnExactRangeOf", unfollowed := true, recurses := true, apart := false }
def FnExactRangeOfSaid : Prop := fnExactRangeOfRow.holds Try.pinned (OpenSpec.ofChange fnExactRangeOfSpec)

/-- ITS FALSE NEIGHBOUR: 'it returns false'. Refute it at one input. -/
def fnExactRangeOfWrong : ChangeSpec := { name := "fnExactRangeOf", fn := fun _ => fun
  | [d] => { results := [.lit (.bool false)], args := [d] }
  | _ => none }
def FnExactRangeOfWrongFalsely : Prop := fnExactRangeOfRow.holds Try.pinned (OpenSpec.ofChange fnExactRangeOfWrong)

/- THE SECOND FORM. 'bulk': how many values and letters a reading holds, each counted each time it is reached (what is shared counts as often as it is met; a slice's spare places count too). A statement '..UptoSaid' is the law's where the arguments, and the package variables that the reading takes, are together of bulk at most 1048576: NARROWER than '..Said'. Prove '..Said' where nothing that the law and all that it calls make is longer than what came in: it says more and counts as full. Else prove '..UptoSaid'. A law counts once. -/
mutual
def uptoBulk {H : Type} : DataW H → Nat
  | .lit (.string bytes) => bytes.length + 1
  | .lit _ => 1
  | .nil => 1
  | .ptr d => uptoBulk d + 1
  | .slice elems spare => uptoBulkAll elems + uptoBulkAll spare + 1
  | .agg parts => uptoBulkAll parts + 1
  | .iface _ d => uptoBulk d + 1
  | .map entries => uptoBulkEntries entries + 1
  | .held _ => 1
def uptoBulkAll {H : Type} : List (DataW H) → Nat
  | [] => 0
  | d :: r => uptoBulk d + uptoBulkAll r
def uptoBulkEntries {H : Type} : List (Lit × DataW H) → Nat
  | [] => 0
  | x :: r => uptoBulkEntry x + uptoBulkEntries r
def uptoBulkEntry {H : Type} : Lit × DataW H → Nat
  | (.string bytes, d) => bytes.length + uptoBulk d + 1
  | (_, d) => uptoBulk d + 1
 end
def uptoSmall : (H : Type) → List (DataW H) → Bool := fun _ ds => decide (uptoBulkAll ds ≤ 1048576)
def OpenSpec.upto (s : _root_.Go.ChangeSpec) : _root_.Go.OpenSpec := { _root_.Go.OpenSpec.ofChange s with cond := some uptoSmall }

/-- 'laws.FnExactValidWave', WHERE WHAT IT READS IS OF BULK AT MOST 1048576: true; the input reads as it did. -/
def fnExactValidWaveUptoRow : OpenClaim := { program := "ytkbkmpcdidhagac", sum := "c2e9d57a5ca813e75e056fff04eebb0c0be20f98b5ceaf615eec2c6d3f26cfd7", func := "loop.example/g01011/laws.FnExactValidWave", spec := "fnExactValidWave", unfollowed := true, recurses := true, apart := false, narrowed := true }
def FnExactValidWaveUptoSaid : Prop := fnExactValidWaveUptoRow.holds Try.pinned (OpenSpec.upto fnExactValidWaveSpec)

/-- 'laws.FnExactSameWave', WHERE WHAT IT READS IS OF BULK AT MOST 1048576: true; the input reads as it did. -/
def fnExactSameWaveUptoRow : OpenClaim := { program := "ytkbkmpcdidhagac", sum := "c2e9d57a5ca813e75e056fff04eebb0c0be20f98b5ceaf615eec2c6d3f26cfd7", func := "loop.example/g01011/laws.FnExactSameWave", spec := "fnExactSameWave", apart := false, narrowed := true }
def FnExactSameWaveUptoSaid : Prop := fnExactSameWaveUptoRow.holds Try.pinned (OpenSpec.upto fnExactSameWaveSpec)

/-- 'laws.FnExactWaveAt', WHERE WHAT IT READS IS OF BULK AT MOST 1048576: true; the input reads as it did. -/
def fnExactWaveAtUptoRow : OpenClaim := { program := "ytkbkmpcdidhagac", sum := "c2e9d57a5ca813e75e056fff04eebb0c0be20f98b5ceaf615eec2c6d3f26cfd7", func := "loop.example/g01011/laws.FnExactWaveAt", spec := "fnExactWaveAt", unfollowed := true, recurses := true, apart := false, narrowed := true }
def FnExactWaveAtUptoSaid : Prop := fnExactWaveAtUptoRow.holds Try.pinned (OpenSpec.upto fnExactWaveAtSpec)

/-- 'laws.FnExactDelayWave', WHERE WHAT IT READS IS OF BULK AT MOST 1048576: true; the input reads as it did. -/
def fnExactDelayWaveUptoRow : OpenClaim := { program := "ytkbkmpcdidhagac", sum := "c2e9d57a5ca813e75e056fff04eebb0c0be20f98b5ceaf615eec2c6d3f26cfd7", func := "loop.example/g01011/laws.FnExactDelayWave", spec := "fnExactDelayWave", unfollowed := true, recurses := true, apart := false, narrowed := true }
def FnExactDelayWaveUptoSaid : Prop := fnExactDelayWaveUptoRow.holds Try.pinned (OpenSpec.upto fnExactDelayWaveSpec)

/-- 'laws.FnExactTrimWave', WHERE WHAT IT READS IS OF BULK AT MOST 1048576: true; the input reads as it did. -/
def fnExactTrimWaveUptoRow : OpenClaim := { program := "ytkbkmpcdidhagac", sum := "c2e9d57a5ca813e75e056fff04eebb0c0be20f98b5ceaf615eec2c6d3f26cfd7", func := "loop.example/g01011/laws.FnExactTrimWave", spec := "fnExactTrimWave", unfollowed := true, recurses := true, apart := false, narrowed := true }
def FnExactTrimWaveUptoSaid : Prop := fnExactTrimWaveUptoRow.holds Try.pinned (OpenSpec.upto fnExactTrimWaveSpec)

/-- 'laws.FnExactMixWaves', WHERE WHAT IT READS IS OF BULK AT MOST 1048576: true; the input reads as it did. -/
def fnExactMixWavesUptoRow : OpenClaim := { program := "ytkbkmpcdidhagac", sum := "c2e9d57a5ca813e75e056fff04eebb0c0be20f98b5ceaf615eec2c6d3f26cfd7", func := "loop.example/g01011/laws.FnExactMixWaves", spec := "fnExactMixWaves", unfollowed := true, recurses := true, apart := false, narrowed := true }
def FnExactMixWavesUptoSaid : Prop := fnExactMixWavesUptoRow.holds Try.pinned (OpenSpec.upto fnExactMixWavesSpec)

/-- 'laws.FnExactThroughPipe', WHERE WHAT IT READS IS OF BULK AT MOST 1048576: true; the input reads as it did. -/
def fnExactThroughPipeUptoRow : OpenClaim := { program := "ytkbkmpcdidhagac", sum := "c2e9d57a5ca813e75e056fff04eebb0c0be20f98b5ceaf615eec2c6d3f26cfd7", func := "loop.example/g01011/laws.FnExactThroughPipe", spec := "fnExactThroughPipe", unfollowed := true, recurses := true, apart := false, narrowed := true }
def FnExactThroughPipeUptoSaid : Prop := fnExactThroughPipeUptoRow.holds Try.pinned (OpenSpec.upto fnExactThroughPipeSpec)

/-- 'laws.FnExactFirstWarm', WHERE WHAT IT READS IS OF BULK AT MOST 1048576: true; the input reads as it did. -/
def fnExactFirstWarmUptoRow : OpenClaim := { program := "ytkbkmpcdidhagac", sum := "c2e9d57a5ca813e75e056fff04eebb0c0be20f98b5ceaf615eec2c6d3f26cfd7", func := "loop.example/g01011/laws.FnExactFirstWarm", spec := "fnExactFirstWarm", unfollowed := true, recurses := true, apart := false, narrowed := true }
def FnExactFirstWarmUptoSaid : Prop := fnExactFirstWarmUptoRow.holds Try.pinned (OpenSpec.upto fnExactFirstWarmSpec)

/-- 'laws.FnExactMeanOf', WHERE WHAT IT READS IS OF BULK AT MOST 1048576: true; the input reads as it did. -/
def fnExactMeanOfUptoRow : OpenClaim := { program := "ytkbkmpcdidhagac", sum := "c2e9d57a5ca813e75e056fff04eebb0c0be20f98b5ceaf615eec2c6d3f26cfd7", func := "loop.example/g01011/laws.FnExactMeanOf", spec := "fnExactMeanOf", unfollowed := true, recurses := true, apart := false, narrowed := true }
def FnExactMeanOfUptoSaid : Prop := fnExactMeanOfUptoRow.holds Try.pinned (OpenSpec.upto fnExactMeanOfSpec)

/-- 'laws.FnExactRangeOf', WHERE WHAT IT READS IS OF BULK AT MOST 1048576: true; the input reads as it did. -/
def fnExactRangeOfUptoRow : OpenClaim := { program := "ytkbkmpcdidhagac", sum := "c2e9d57a5ca813e75e056fff04eebb0c0be20f98b5ceaf615eec2c6d3f26cfd7", func := "loop.example/g01011/laws.FnExactRangeOf", spec := "fnExactRangeOf", unfollowed := true, recurses := true, apart := false, narrowed := true }
def FnExactRangeOfUptoSaid : Prop := fnExactRangeOfUptoRow.holds Try.pinned (OpenSpec.upto fnExactRangeOfSpec)

end Rows
end Go.Proofs.Ytkbkmpcdidhagac
