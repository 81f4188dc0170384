/-
  No cell of these rows narrows 'for every input' (looked for: loops, veiled, ifaces, maps, wideKeys, modest, calm, conditions, laid).
  DERIVED. THE GIVEN ROWS OF THIS SEAT. 5 by the template 'for every input the law returns true; each argument reads behind the call as it read before'; 0 by the template 'total and deterministic' (their statements: YtgdafgnjaogmeabTotals.lean).
  GIVEN WITH THE SEED: the statements are not yours to turn. If you find one false, say at which input.
  Laid BY PROGRAM, IN A SANDBOX (cutbox-rows.mjs): the forced cells as the released guide's own fill.sh prints them over the translation a79696598bbcc236… (all of the seat's roots in one cut). By AI agents, Wed Nov 11 2026. No macro, syntax, notation, axiom, sorry.
-/
import Derived.Test.YtgdafgnjaogmeabChecked
import GoSem.Claim
import GoSem.ClaimJoined
import GoSem.ClaimMapViews
import Derived.JoinedTies
import Derived.KernelRfl
namespace Go.Proofs.Ytgdafgnjaogmeab
/- THE CELL 'sum', in the pinned program and in every row, IS THE sha256 OF THE DUMP (.gsa) THAT YtgdafgnjaogmeabProg.lean LOADS. Nothing in Lean hashes anything: it is a label: what it is worth is what the hold of that sum in a sandbox is worth. -/
noncomputable def Try.pinned : Pinned := { name := "ytgdafgnjaogmeab", sum := "a79696598bbcc2364548d58444ef0d400dacadacc636571b55b4461a2db5dfc9", checked := Try.checked }
namespace Rows
def none {H : Type} : Left H := { results := [], args := [] }

/-- 'laws.FnExactSlowPump': WHATEVER THE INPUT: true; the input reads as it did. -/
def fnExactSlowPumpSpec : ChangeSpec := { name := "fnExactSlowPump", fn := fun _ => fun
  | [d1, d2] => { results := [.lit (.bool true)], args := [d1, d2] }
  | _ => none }
def fnExactSlowPumpRow : OpenClaim := { program := "ytgdafgnjaogmeab", sum := "a79696598bbcc2364548d58444ef0d400dacadacc636571b55b4461a2db5dfc9", func := "loop.example/g01011/laws.FnExactSlowPump", spec := "fnExactSlowPump", unfollowed := true, recurses := true, apart := false }
def FnExactSlowPumpSaid : Prop := fnExactSlowPumpRow.holds Try.pinned (OpenSpec.ofChange fnExactSlowPumpSpec)

/-- ITS FALSE NEIGHBOUR: 'it returns false'. Refute it at one input. -/
def fnExactSlowPumpWrong : ChangeSpec := { name := "fnExactSlowPump", fn := fun _ => fun
  | [d1, d2] => { results := [.lit (.bool false)], args := [d1, d2] }
  | _ => none }
def FnExactSlowPumpWrongFalsely : Prop := fnExactSlowPumpRow.holds Try.pinned (OpenSpec.ofChange fnExactSlowPumpWrong)

/-- 'laws.FnExactDropPipe': WHATEVER THE INPUT: true; the input reads as it did. -/
def fnExactDropPipeSpec : ChangeSpec := { name := "fnExactDropPipe", fn := fun _ => fun
  | [d1, d2] => { results := [.lit (.bool true)], args := [d1, d2] }
  | _ => none }
def fnExactDropPipeRow : OpenClaim := { program := "ytgdafgnjaogmeab", sum := "a79696598bbcc2364548d58444ef0d400dacadacc636571b55b4461a2db5dfc9", func := "loop.example/g01011/laws.FnExactDropPipe", spec := "fnExactDropPipe", unfollowed := true, recurses := true, apart := false }
def FnExactDropPipeSaid : Prop := fnExactDropPipeRow.holds Try.pinned (OpenSpec.ofChange fnExactDropPipeSpec)

/-- ITS FALSE NEIGHBOUR: 'it returns false'. Refute it at one input. -/
def fnExactDropPipeWrong : ChangeSpec := { name := "fnExactDropPipe", fn := fun _ => fun
  | [d1, d2] => { results := [.lit (.bool false)], args := [d1, d2] }
  | _ => none }
def FnExactDropPipeWrongFalsely : Prop := fnExactDropPipeRow.holds Try.pinned (OpenSpec.ofChange fnExactDropPipeWrong)

/-- 'laws.FnExactAddPipe': WHATEVER THE INPUT: true; the input reads as it did. -/
def fnExactAddPipeSpec : ChangeSpec := { name := "fnExactAddPipe", fn := fun _ => fun
  | [d1, d2] => { results := [.lit (.bool true)], args := [d1, d2] }
  | _ => none }
def fnExactAddPipeRow : OpenClaim := { program := "ytgdafgnjaogmeab", sum := "a79696598bbcc2364548d58444ef0d400dacadacc636571b55b4461a2db5dfc9", func := "loop.example/g01011/laws.FnExactAddPipe", spec := "fnExactAddPipe", inPlace := ["internal/bytealg.abigen_runtime_cmpstring"], unfollowed := true, recurses := true, apart := false }
def FnExactAddPipeSaid : Prop := fnExactAddPipeRow.holds Try.pinned (OpenSpec.ofChange fnExactAddPipeSpec)

/-- ITS FALSE NEIGHBOUR: 'it returns false'. Refute it at one input. -/
def fnExactAddPipeWrong : ChangeSpec := { name := "fnExactAddPipe", fn := fun _ => fun
  | [d1, d2] => { results := [.lit (.bool false)], args := [d1, d2] }
  | _ => none }
def FnExactAddPipeWrongFalsely : Prop := fnExactAddPipeRow.holds Try.pinned (OpenSpec.ofChange fnExactAddPipeWrong)

/-- 'laws.FnMixes': WHATEVER THE INPUT: true; the input reads as it did. -/
def fnMixesSpec : ChangeSpec := { name := "fnMixes", fn := fun _ => fun
  | [d1, d2] => { results := [.lit (.bool true)], args := [d1, d2] }
  | _ => none }
def fnMixesRow : OpenClaim := { program := "ytgdafgnjaogmeab", sum := "a79696598bbcc2364548d58444ef0d400dacadacc636571b55b4461a2db5dfc9", func := "loop.example/g01011/laws.FnMixes", spec := "fnMixes", unfollowed := true, recurses := true, apart := false }
def FnMixesSaid : Prop := fnMixesRow.holds Try.pinned (OpenSpec.ofChange fnMixesSpec)

/-- ITS FALSE NEIGHBOUR: 'it returns false'. Refute it at one input. -/
def fnMixesWrong : ChangeSpec := { name := "fnMixes", fn := fun _ => fun
  | [d1, d2] => { results := [.lit (.bool false)], args := [d1, d2] }
  | _ => none }
def FnMixesWrongFalsely : Prop := fnMixesRow.holds Try.pinned (OpenSpec.ofChange fnMixesWrong)

/-- 'laws.FnExactPumpsInRow': WHATEVER THE INPUT: true; the input reads as it did. -/
def fnExactPumpsInRowSpec : ChangeSpec := { name := "fnExactPumpsInRow", fn := fun _ => fun
  | [d1, d2] => { results := [.lit (.bool true)], args := [d1, d2] }
  | _ => none }
def fnExactPumpsInRowRow : OpenClaim := { program := "ytgdafgnjaogmeab", sum := "a79696598bbcc2364548d58444ef0d400dacadacc636571b55b4461a2db5dfc9", func := "loop.example/g01011/laws.FnExactPumpsInRow", spec := "fnExactPumpsInRow", unfollowed := true, recurses := true, apart := false }
def FnExactPumpsInRowSaid : Prop := fnExactPumpsInRowRow.holds Try.pinned (OpenSpec.ofChange fnExactPumpsInRowSpec)

/-- ITS FALSE NEIGHBOUR: 'it returns false'. Refute it at one input. -/
def fnExactPumpsInRowWrong : ChangeSpec := { name := "fnExactPumpsInRow", fn := fun _ => fun
  | [d1, d2] => { results := [.lit (.bool false)], args := [d1, d2] }
  | _ => none }
def FnExactPumpsInRowWrongFalsely : Prop := fnExactPumpsInRowRow.holds Try.pinned (OpenSpec.ofChange fnExactPumpsInRowWrong)

/- THE SECOND FORM. 'bulk': how many values and letters a reading holds, each counted each time it is reached (what is shared counts as often as it is met; a slice's spare places count too). A statement '..UptoSaid' is the law's where the arguments, and the package variables that the reading takes, are together of bulk at most 1048576: NARROWER than '..Said'. Prove '..Said' where nothing that the law and all that it calls make is longer than what came in: it says more and counts as full. Else prove '..UptoSaid'. A law counts once. -/
mutual
def uptoBulk {H : Type} : DataW H → Nat
  | .lit (.string bytes) => bytes.length + 1
  | .lit _ => 1
  | .nil => 1
  | .ptr d => uptoBulk d + 1
  | .slice elems spare => uptoBulkAll elems + uptoBulkAll spare + 1
  | .agg parts => uptoBulkAll parts + 1
  | .iface _ d => uptoBulk d + 1
  | .map entries => uptoBulkEntries entries + 1
  | .held _ => 1
def uptoBulkAll {H : Type} : List (DataW H) → Nat
  | [] => 0
  | d :: r => uptoBulk d + uptoBulkAll r
def uptoBulkEntries {H : Type} : List (Lit × DataW H) → Nat
  | [] => 0
  | x :: r => uptoBulkEntry x + uptoBulkEntries r
def uptoBulkEntry {H : Type} : Lit × DataW H → Nat
  | (.string bytes, d) => bytes.length + uptoBulk d + 1
  | (_, d) => uptoBulk d + 1
 end
def uptoSmall : (H : Type) → List (DataW H) → Bool := fun _ ds => decide (uptoBulkAll ds ≤ 1048576)
def OpenSpec.upto (s : _root_.Go.ChangeSpec) : _root_.Go.OpenSpec := { _root_.Go.OpenSpec.ofChange s with cond := some uptoSmall }

/-- 'laws.FnExactSlowPump', WHERE WHAT IT READS IS OF BULK AT MOST 1048576: true; the input reads as it did. -/
def fnExactSlowPumpUptoRow : OpenClaim := { program := "ytgdafgnjaogmeab", sum := "a79696598bbcc2364548d58444ef0d400dacadacc636571b55b4461a2db5dfc9", func := "loop.example/g01011/laws.FnExactSlowPump", spec := "fnExactSlowPump", unfollowed := true, recurses := true, apart := false, narrowed := true }
def FnExactSlowPumpUptoSaid : Prop := fnExactSlowPumpUptoRow.holds Try.pinned (OpenSpec.upto fnExactSlowPumpSpec)

/-- 'laws.FnExactDropPipe', WHERE WHAT IT READS IS OF BULK AT MOST 1048576: true; the input reads as it did. -/
def fnExactDropPipeUptoRow : OpenClaim := { program := "ytgdafgnjaogmeab", sum := "a79696598bbcc2364548d58444ef0d400dacadacc636571b55b4461a2db5dfc9", func := "loop.example/g01011/laws.FnExactDropPipe", spec := "fnExactDropPipe", unfollowed := true, recurses := true, apart := false, narrowed := true }
def FnExactDropPipeUptoSaid : Prop := fnExactDropPipeUptoRow.holds Try.pinned (OpenSpec.upto fnExactDropPipeSpec)

/-- 'laws.FnExactAddPipe', WHERE WHAT IT READS IS OF BULK AT MOST 1048576: true; the input reads as it did. -/
def fnExactAddPipeUptoRow : OpenClaim := { program := "ytgdafgnjaogmeab", sum := "a79696598bbcc2364548d58444ef0d400dacadacc636571b55b4461a2db5dfc9", func := "loop.example/g01011/laws.FnExactAddPipe", spec := "fnExactAddPipe", inPlace := ["internal/bytealg.abigen_runtime_cmpstring"], unfollowed := true, recurses := true, apart := false, narrowed := true }
def FnExactAddPipeUptoSaid : Prop := fnExactAddPipeUptoRow.holds Try.pinned (OpenSpec.upto fnExactAddPipeSpec)

/-- 'laws.FnMixes', WHERE WHAT IT READS IS OF BULK AT MOST 1048576: true; the input reads as it did. -/
def fnMixesUptoRow : OpenClaim := { program := "ytgdafgnjaogmeab", sum := "a79696598bbcc2364548d58444ef0d400dacadacc636571b55b4461a2db5dfc9", func := "loop.example/g01011/laws.FnMixes", spec := "fnMixes", unfollowed := true, recurses := true, apart := false, narrowed := true }
def FnMixesUptoSaid : Prop := fnMixesUptoRow.holds Try.pinned (OpenSpec.upto fnMixesSpec)

/-- 'laws.FnExactPumpsInRow', WHERE WHAT IT READS IS OF BULK AT MOST 1048576: true; the input reads as it did. -/
def fnExactPumpsInRowUptoRow : OpenClaim := { program := "ytgdafgnjaogmeab", sum := "a79696598bbcc2364548d58444ef0d400dacadacc636571b55b4461a2db5dfc9", func := "loop.example/g01011/laws.FnExactPumpsInRow", spec := "fnExactPumpsInRow", unfollowed := true, recurses := true, apart := false, narrowed := true }
def FnExactPumpsInRowUptoSaid : Prop := fnExactPumpsInRowUptoRow.holds Try.pinned (OpenSpec.upto fnExactPumpsInRowSpec)

end Rows
end Go.Proofs.Ytgdafgnjaogmeab
