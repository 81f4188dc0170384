/-
  No cell of these rows narrows 'for every input' (looked for: loops, veiled, ifaces, maps, wideKeys, modest, calm, conditions, laid).
  DERIVED. THE GIVEN ROWS OF THIS SEAT. 10 by the template 'for every input the law returns true; each argument reads behind the call as it read before'; 0 by the template 'total and deterministic' (their statements: YtkbkmpcdidhagabTotals.lean).
  GIVEN WITH THE SEED: the statements are not yours to turn. If you find one false, say at which input.
  Laid BY PROGRAM, IN A SANDBOX (cutbox-rows.mjs): the forced cells as the released guide's own fill.sh prints them over the translation 2d93900d07b54a99… (all of the seat's roots in one cut). By AI agents, Wed Nov 11 2026. No macro, syntax, notation, axiom, sorry.
-/
import Derived.Test.YtkbkmpcdidhagabChecked
import GoSem.Claim
import GoSem.ClaimJoined
import GoSem.ClaimMapViews
import Derived.JoinedTies
import Derived.KernelRfl
namespace Go.Proofs.Ytkbkmpcdidhagab
/- THE CELL 'sum', in the pinned program and in every row, IS THE sha256 OF THE DUMP (.gsa) THAT YtkbkmpcdidhagabProg.lean LOADS. Nothing in Lean hashes anything: it is a label: what it is worth is what the hold of that sum in a sandbox is worth. -/
noncomputable def Try.pinned : Pinned := { name := "ytkbkmpcdidhagab", sum := "2d93900d07b54a99061e6ea4dbe386491145e05d9a1c93608fcc6cbf6ff204cd", checked := Try.checked }
namespace Rows
def none {H : Type} : Left H := { results := [], args := [] }

/-- 'laws.FnExactValidPump': WHATEVER THE INPUT: true; the input reads as it did. -/
def fnExactValidPumpSpec : ChangeSpec := { name := "fnExactValidPump", fn := fun _ => fun
  | [d] => { results := [.lit (.bool true)], args := [d] }
  | _ => none }
def fnExactValidPumpRow : OpenClaim := { program := "ytkbkmpcdidhagab", sum := "2d93900d07b54a99061e6ea4dbe386491145e05d9a1c93608fcc6cbf6ff204cd", func := "loop.example/g01011/laws.FnExactValidPump", spec := "fnExactValidPump", unfollowed := true, recurses := true, apart := false }
def FnExactValidPumpSaid : Prop := fnExactValidPumpRow.holds Try.pinned (OpenSpec.ofChange fnExactValidPumpSpec)

/-- ITS FALSE NEIGHBOUR: 'it returns false'. Refute it at one input. -/
def fnExactValidPumpWrong : ChangeSpec := { name := "fnExactValidPump", fn := fun _ => fun
  | [d] => { results := [.lit (.bool false)], args := [d] }
  | _ => none }
def FnExactValidPumpWrongFalsely : Prop := fnExactValidPumpRow.holds Try.pinned (OpenSpec.ofChange fnExactValidPumpWrong)

/-- 'laws.FnExactSamePump': WHATEVER THE INPUT: true; the input reads as it did. -/
def fnExactSamePumpSpec : ChangeSpec := { name := "fnExactSamePump", fn := fun _ => fun
  | [d1, d2] => { results := [.lit (.bool true)], args := [d1, d2] }
  | _ => none }
def fnExactSamePumpRow : OpenClaim := { program := "ytkbkmpcdidhagab", sum := "2d93900d07b54a99061e6ea4dbe386491145e05d9a1c93608fcc6cbf6ff204cd", func := "loop.example/g01011/laws.FnExactSamePump", spec := "fnExactSamePump", unfollowed := true, recurses := true, apart := false }
def FnExactSamePumpSaid : Prop := fnExactSamePumpRow.holds Try.pinned (OpenSpec.ofChange fnExactSamePumpSpec)

/-- ITS FALSE NEIGHBOUR: 'it returns false'. Refute it at one input. -/
def fnExactSamePumpWrong : ChangeSpec := { name := "fnExactSamePump", fn := fun _ => fun
  | [d1, d2] => { results := [.lit (.bool false)], args := [d1, d2] }
  | _ => none }
def FnExactSamePumpWrongFalsely : Prop := fnExactSamePumpRow.holds Try.pinned (OpenSpec.ofChange fnExactSamePumpWrong)

/-- 'laws.FnExactHeadAt': WHATEVER THE INPUT: true; the input reads as it did. -/
def fnExactHeadAtSpec : ChangeSpec := { name := "fnExactHeadAt", fn := fun _ => fun
  | [d1, d2] => { results := [.lit (.bool true)], args := [d1, d2] }
  | _ => none }
def fnExactHeadAtRow : OpenClaim := { program := "ytkbkmpcdidhagab", sum := "2d93900d07b54a99061e6ea4dbe386491145e05d9a1c93608fcc6cbf6ff204cd", func := "loop.example/g01011/laws.FnExactHeadAt", spec := "fnExactHeadAt", unfollowed := true, recurses := true, apart := false }
def FnExactHeadAtSaid : Prop := fnExactHeadAtRow.holds Try.pinned (OpenSpec.ofChange fnExactHeadAtSpec)

/-- ITS FALSE NEIGHBOUR: 'it returns false'. Refute it at one input. -/
def fnExactHeadAtWrong : ChangeSpec := { name := "fnExactHeadAt", fn := fun _ => fun
  | [d1, d2] => { results := [.lit (.bool false)], args := [d1, d2] }
  | _ => none }
def FnExactHeadAtWrongFalsely : Prop := fnExactHeadAtRow.holds Try.pinned (OpenSpec.ofChange fnExactHeadAtWrong)

/-- 'laws.FnExactSystemHead': WHATEVER THE INPUT: true; the input reads as it did. -/
def fnExactSystemHeadSpec : ChangeSpec := { name := "fnExactSystemHead", fn := fun _ => fun
  | [d1, d2, d3] => { results := [.lit (.bool true)], args := [d1, d2, d3] }
  | _ => none }
def fnExactSystemHeadRow : OpenClaim := { program := "ytkbkmpcdidhagab", sum := "2d93900d07b54a99061e6ea4dbe386491145e05d9a1c93608fcc6cbf6ff204cd", func := "loop.example/g01011/laws.FnExactSystemHead", spec := "fnExactSystemHead", apart := false }
def FnExactSystemHeadSaid : Prop := fnExactSystemHeadRow.holds Try.pinned (OpenSpec.ofChange fnExactSystemHeadSpec)

/-- ITS FALSE NEIGHBOUR: 'it returns false'. Refute it at one input. -/
def fnExactSystemHeadWrong : ChangeSpec := { name := "fnExactSystemHead", fn := fun _ => fun
  | [d1, d2, d3] => { results := [.lit (.bool false)], args := [d1, d2, d3] }
  | _ => none }
def FnExactSystemHeadWrongFalsely : Prop := fnExactSystemHeadRow.holds Try.pinned (OpenSpec.ofChange fnExactSystemHeadWrong)

/-- 'laws.FnExactWorkingFlow': WHATEVER THE INPUT: true; the input reads as it did. -/
def fnExactWorkingFlowSpec : ChangeSpec := { name := "fnExactWorkingFlow", fn := fun _ => fun
  | [d1, d2, d3] => { results := [.lit (.bool true)], args := [d1, d2, d3] }
  | _ => none }
def fnExactWorkingFlowRow : OpenClaim := { program := "ytkbkmpcdidhagab", sum := "2d93900d07b54a99061e6ea4dbe386491145e05d9a1c93608fcc6cbf6ff204cd", func := "loop.example/g01011/laws.FnExactWorkingFlow", spec := "fnExactWorkingFlow", unfollowed := true, recurses := true, apart := false }
def FnExactWorkingFlowSaid : Prop := fnExactWorkingFlowRow.holds Try.pinned (OpenSpec.ofChange fnExactWorkingFlowSpec)

/-- ITS FALSE NEIGHBOUR: 'it returns false'. Refute it at one input. -/
def fnExactWorkingFlowWrong : ChangeSpec := { name := "fnExactWorkingFlow", fn := fun _ => fun
  | [d1, d2, d3] => { results := [.lit (.bool false)], args := [d1, d2, d3] }
  | _ => none }
def FnExactWorkingFlowWrongFalsely : Prop := fnExactWorkingFlowRow.holds Try.pinned (OpenSpec.ofChange fnExactWorkingFlowWrong)

/-- 'laws.FnExactSlowPump': WHATEVER THE INPUT: true; the input reads as it did. -/
def fnExactSlowPumpSpec : ChangeSpec := { name := "fnExactSlowPump", fn := fun _ => fun
  | [d1, d2] => { results := [.lit (.bool true)], args := [d1, d2] }
  | _ => none }
def fnExactSlowPumpRow : OpenClaim := { program := "ytkbkmpcdidhagab", sum := "2d93900d07b54a99061e6ea4dbe386491145e05d9a1c93608fcc6cbf6ff204cd", func := "loop.example/g01011/laws.FnExactSlowPump", spec := "fnExactSlowPump", unfollowed := true, recurses := true, apart := false }
def FnExactSlowPumpSaid : Prop := fnExactSlowPumpRow.holds Try.pinned (OpenSpec.ofChange fnExactSlowPumpSpec)

/-- ITS FALSE NEIGHBOUR: 'it returns false'. Refute it at one input. -/
def fnExactSlowPumpWrong : ChangeSpec := { name := "fnExactSlowPump", fn := fun _ => fun
  | [d1, d2] => { results := [.lit (.bool false)], args := [d1, d2] }
  | _ => none }
def FnExactSlowPumpWrongFalsely : Prop := fnExactSlowPumpRow.holds Try.pinned (OpenSpec.ofChange fnExactSlowPumpWrong)

/-- 'laws.FnExactPumpsInRow': WHATEVER THE INPUT: true; the input reads as it did. -/
def fnExactPumpsInRowSpec : ChangeSpec := { name := "fnExactPumpsInRow", fn := fun _ => fun
  | [d1, d2] => { results := [.lit (.bool true)], args := [d1, d2] }
  | _ => none }
def fnExactPumpsInRowRow : OpenClaim := { program := "ytkbkmpcdidhagab", sum := "2d93900d07b54a99061e6ea4dbe386491145e05d9a1c93608fcc6cbf6ff204cd", func := "loop.example/g01011/laws.FnExactPumpsInRow", spec := "fnExactPumpsInRow", unfollowed := true, recurses := true, apart := false }
def FnExactPumpsInRowSaid : Prop := fnExactPumpsInRowRow.holds Try.pinned (OpenSpec.ofChange fnExactPumpsInRowSpec)

/-- ITS FALSE NEIGHBOUR: 'it returns false'. Refute it at one input. -/
def fnExactPumpsInRowWrong : ChangeSpec := { name := "fnExactPumpsInRow", fn := fun _ => fun
  | [d1, d2] => { results := [.lit (.bool false)], args := [d1, d2] }
  | _ => none }
def FnExactPumpsInRowWrongFalsely : Prop := fnExactPumpsInRowRow.holds Try.pinned (OpenSpec.ofChange fnExactPumpsInRowWrong)

/-- 'laws.FnExactElectricPower': WHATEVER THE INPUT: true; the input reads as it did. -/
def fnExactElectricPowerSpec : ChangeSpec := { name := "fnExactElectricPower", fn := fun _ => fun
  | [d1, d2, d3] => { results := [.lit (.bool true)], args := [d1, d2, d3] }
  | _ => none }
def fnExactElectricPowerRow : OpenClaim := { program := "ytkbkmpcdidhagab", sum := "2d93900d07b54a99061e6ea4dbe386491145e05d9a1c93608fcc6cbf6ff204cd", func := "loop.example/g01011/laws.FnExactElectricPower", spec := "fnExactElectricPower", unfollowed := true, recurses := true, apart := false }
def FnExactElectricPowerSaid : Prop := fnExactElectricPowerRow.holds Try.pinned (OpenSpec.ofChange fnExactElectricPowerSpec)

/-- ITS FALSE NEIGHBOUR: 'it returns false'. Refute it at one input. -/
def fnExactElectricPowerWrong : ChangeSpec := { name := "fnExactElectricPower", fn := fun _ => fun
  | [d1, d2, d3] => { results := [.lit (.bool false)], args := [d1, d2, d3] }
  | _ => none }
def FnExactElectricPowerWrongFalsely : Prop := fnExactElectricPowerRow.holds Try.pinned (OpenSpec.ofChange fnExactElectricPowerWrong)

/-- 'laws.FnExactLeastSpeed': WHATEVER THE INPUT: true; the input reads as it did. -/
def fnExactLeastSpeedSpec : ChangeSpec := { name := "fnExactLeastSpeed", fn := fun _ => fun
  | [d1, d2, d3, d4] => { results := [.lit (.bool true)], args := [d1, d2, d3, d4] }
  | _ => none }
def fnExactLeastSpeedRow : OpenClaim := { program := "ytkbkmpcdidhagab", sum := "2d93900d07b54a99061e6ea4dbe386491145e05d9a1c93608fcc6cbf6ff204cd", func := "loop.example/g01011/laws.FnExactLeastSpeed", spec := "fnExactLeastSpeed", unfollowed := true, recurses := true, apart := false }
def FnExactLeastSpeedSaid : Prop := fnExactLeastSpeedRow.holds Try.pinned (OpenSpec.ofChange fnExactLeastSpeedSpec)

/-- ITS FALSE NEIGHBOUR: 'it returns false'. Refute it at one input. -/
def fnExactLeastSpeedWrong : ChangeSpec := { name := "fnExactLeastSpeed", fn := fun _ => fun
  | [d1, d2, d3, d4] => { results := [.lit (.bool false)], args := [d1, d2, d3, d4] }
  | _ => none }
def FnExactLeastSpeedWrongFalsely : Prop := fnExactLeastSpeedRow.holds Try.pinned (OpenSpec.ofChange fnExactLeastSpeedWrong)

/-- 'laws.FnExactCheapestPumps': WHATEVER THE INPUT: true; the input reads as it did. -/
def fnExactCheapestPumpsSpec : ChangeSpec := { name := "fnExactCheapestPumps", fn := fun _ => fun
  | [d1, d2, d3, d4, d5] => { results := [.lit (.bool true)], args := [d1, d2, d3, d4, d5] }
  | _ => none }
def fnExactCheapestPumpsRow : OpenClaim := { program := "ytkbkmpcdidhagab", sum := "2d93900d07b54a99061e6ea4dbe386491145e05d9a1c93608fcc6cbf6ff204cd", func := "loop.example/g01011/laws.FnExactCheapestPumps", spec := "fnExactCheapestPumps", unfollowed := true, recurses := true, apart := false }
def FnExactCheapestPumpsSaid : Prop := fnExactCheapestPumpsRow.holds Try.pinned (OpenSpec.ofChange fnExactCheapestPumpsSpec)

/-- ITS FALSE NEIGHBOUR: 'it returns false'. Refute it at one input. -/
def fnExactCheapestPumpsWrong : ChangeSpec := { name := "fnExactCheapestPumps", fn := fun _ => fun
  | [d1, d2, d3, d4, d5] => { results := [.lit (.bool false)], args := [d1, d2, d3, d4, d5] }
  | _ => none }
def FnExactCheapestPumpsWrongFalsely : Prop := fnExactCheapestPumpsRow.holds Try.pinned (OpenSpec.ofChange fnExactCheapestPumpsWrong)

/- THE SECOND FORM. 'bulk': how many values and letters a reading holds, each counted each time it is reached (what is shared counts as often as it is met; a slice's spare places count too). A statement '..UptoSaid' is the law's where the arguments, and the package variables that the reading takes, are together of bulk at most 1048576: NARROWER than '..Said'. Prove '..Said' where nothing that the law and all that it calls make is longer than what came in: it says more and counts as full. Else prove '..UptoSaid'. A law counts once. -/
mutual
def uptoBulk {H : Type} : DataW H → Nat
  | .lit (.string bytes) => bytes.length + 1
  | .lit _ => 1
  | .nil => 1
  | .ptr d => uptoBulk d + 1
  | .slice elems spare => uptoBulkAll elems + uptoBulkAll spare + 1
  | .agg parts => uptoBulkAll parts + 1
  | .iface _ d => uptoBulk d + 1
  | .map entries => uptoBulkEntries entries + 1
  | .held _ => 1
def uptoBulkAll {H : Type} : List (DataW H) → Nat
  | [] => 0
  | d :: r => uptoBulk d + uptoBulkAll r
def uptoBulkEntries {H : Type} : List (Lit × DataW H) → Nat
  | [] => 0
  | x :: r => uptoBulkEntry x + uptoBulkEntries r
def uptoBulkEntry {H : Type} : Lit × DataW H → Nat
  | (.string bytes, d) => bytes.length + uptoBulk d + 1
  | (_, d) => uptoBulk d + 1
 end
def uptoSmall : (H : Type) → List (DataW H) → Bool := fun _ ds => decide (uptoBulkAll ds ≤ 1048576)
def OpenSpec.upto (s : _root_.Go.ChangeSpec) : _root_.Go.OpenSpec := { _root_.Go.OpenSpec.ofChange s with cond := some uptoSmall }

/-- 'laws.FnExactValidPump', WHERE WHAT IT READS IS OF BULK AT MOST 1048576: true; the input reads as it did. -/
def fnExactValidPumpUptoRow : OpenClaim := { program := "ytkbkmpcdidhagab", sum := "2d93900d07b54a99061e6ea4dbe386491145e05d9a1c93608fcc6cbf6ff204cd", func := "loop.example/g01011/laws.FnExactValidPump", spec := "fnExactValidPump", unfollowed := true, recurses := true, apart := false, narrowed := true }
def FnExactValidPumpUptoSaid : Prop := fnExactValidPumpUptoRow.holds Try.pinned (OpenSpec.upto fnExactValidPumpSpec)

/-- 'laws.FnExactSamePump', WHERE WHAT IT READS IS OF BULK AT MOST 1048576: true; the input reads as it did. -/
def fnExactSamePumpUptoRow : OpenClaim := { program := "ytkbkmpcdidhagab", sum := "2d93900d07b54a99061e6ea4dbe386491145e05d9a1c93608fcc6cbf6ff204cd", func := "loop.example/g01011/laws.FnExactSamePump", spec := "fnExactSamePump", unfollowed := true, recurses := true, apart := false, narrowed := true }
def FnExactSamePumpUptoSaid : Prop := fnExactSamePumpUptoRow.holds Try.pinned (OpenSpec.upto fnExactSamePumpSpec)

/-- 'laws.FnExactHeadAt', WHERE WHAT IT READS IS OF BULK AT MOST 1048576: true; the input reads as it did. -/
def fnExactHeadAtUptoRow : OpenClaim := { program := "ytkbkmpcdidhagab", sum := "2d93900d07b54a99061e6ea4dbe386491145e05d9a1c93608fcc6cbf6ff204cd", func := "loop.example/g01011/laws.FnExactHeadAt", spec := "fnExactHeadAt", unfollowed := true, recurses := true, apart := false, narrowed := true }
def FnExactHeadAtUptoSaid : Prop := fnExactHeadAtUptoRow.holds Try.pinned (OpenSpec.upto fnExactHeadAtSpec)

/-- 'laws.FnExactSystemHead', WHERE WHAT IT READS IS OF BULK AT MOST 1048576: true; the input reads as it did. -/
def fnExactSystemHeadUptoRow : OpenClaim := { program := "ytkbkmpcdidhagab", sum := "2d93900d07b54a99061e6ea4dbe386491145e05d9a1c93608fcc6cbf6ff204cd", func := "loop.example/g01011/laws.FnExactSystemHead", spec := "fnExactSystemHead", apart := false, narrowed := true }
def FnExactSystemHeadUptoSaid : Prop := fnExactSystemHeadUptoRow.holds Try.pinned (OpenSpec.upto fnExactSystemHeadSpec)

/-- 'laws.FnExactWorkingFlow', WHERE WHAT IT READS IS OF BULK AT MOST 1048576: true; the input reads as it did. -/
def fnExactWorkingFlowUptoRow : OpenClaim := { program := "ytkbkmpcdidhagab", sum := "2d93900d07b54a99061e6ea4dbe386491145e05d9a1c93608fcc6cbf6ff204cd", func := "loop.example/g01011/laws.FnExactWorkingFlow", spec := "fnExactWorkingFlow", unfollowed := true, recurses := true, apart := false, narrowed := true }
def FnExactWorkingFlowUptoSaid : Prop := fnExactWorkingFlowUptoRow.holds Try.pinned (OpenSpec.upto fnExactWorkingFlowSpec)

/-- 'laws.FnExactSlowPump', WHERE WHAT IT READS IS OF BULK AT MOST 1048576: true; the input reads as it did. -/
def fnExactSlowPumpUptoRow : OpenClaim := { program := "ytkbkmpcdidhagab", sum := "2d93900d07b54a99061e6ea4dbe386491145e05d9a1c93608fcc6cbf6ff204cd", func := "loop.example/g01011/laws.FnExactSlowPump", spec := "fnExactSlowPump", unfollowed := true, recurses := true, apart := false, narrowed := true }
def FnExactSlowPumpUptoSaid : Prop := fnExactSlowPumpUptoRow.holds Try.pinned (OpenSpec.upto fnExactSlowPumpSpec)

/-- 'laws.FnExactPumpsInRow', WHERE WHAT IT READS IS OF BULK AT MOST 1048576: true; the input reads as it did. -/
def fnExactPumpsInRowUptoRow : OpenClaim := { program := "ytkbkmpcdidhagab", sum := "2d93900d07b54a99061e6ea4dbe386491145e05d9a1c93608fcc6cbf6ff204cd", func := "loop.example/g01011/laws.FnExactPumpsInRow", spec := "fnExactPumpsInRow", unfollowed := true, recurses := true, apart := false, narrowed := true }
def FnExactPumpsInRowUptoSaid : Prop := fnExactPumpsInRowUptoRow.holds Try.pinned (OpenSpec.upto fnExactPumpsInRowSpec)

/-- 'laws.FnExactElectricPower', WHERE WHAT IT READS IS OF BULK AT MOST 1048576: true; the input reads as it did. -/
def fnExactElectricPowerUptoRow : OpenClaim := { program := "ytkbkmpcdidhagab", sum := "2d93900d07b54a99061e6ea4dbe386491145e05d9a1c93608fcc6cbf6ff204cd", func := "loop.example/g01011/laws.FnExactElectricPower", spec := "fnExactElectricPower", unfollowed := true, recurses := true, apart := false, narrowed := true }
def FnExactElectricPowerUptoSaid : Prop := fnExactElectricPowerUptoRow.holds Try.pinned (OpenSpec.upto fnExactElectricPowerSpec)

/-- 'laws.FnExactLeastSpeed', WHERE WHAT IT READS IS OF BULK AT MOST 1048576: true; the input reads as it did. -/
def fnExactLeastSpeedUptoRow : OpenClaim := { program := "ytkbkmpcdidhagab", sum := "2d93900d07b54a99061e6ea4dbe386491145e05d9a1c93608fcc6cbf6ff204cd", func := "loop.example/g01011/laws.FnExactLeastSpeed", spec := "fnExactLeastSpeed", unfollowed := true, recurses := true, apart := false, narrowed := true }
def FnExactLeastSpeedUptoSaid : Prop := fnExactLeastSpeedUptoRow.holds Try.pinned (OpenSpec.upto fnExactLeastSpeedSpec)

/-- 'laws.FnExactCheapestPumps', WHERE WHAT IT READS IS OF BULK AT MOST 1048576: true; the input reads as it did. -/
def fnExactCheapestPumpsUptoRow : OpenClaim := { program := "ytkbkmpcdidhagab", sum := "2d93900d07b54a99061e6ea4dbe386491145e05d9a1c93608fcc6cbf6ff204cd", func := "loop.example/g01011/laws.FnExactCheapestPumps", spec := "fnExactCheapestPumps", unfollowed := true, recurses := true, apart := false, narrowed := true }
def FnExactCheapestPumpsUptoSaid : Prop := fnExactCheapestPumpsUptoRow.holds Try.pinned (OpenSpec.upto fnExactCheapestPumpsSpec)

end Rows
end Go.Proofs.Ytkbkmpcdidhagab
