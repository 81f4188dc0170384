/-
  No cell of these rows narrows 'for every input' (looked for: loops, veiled, ifaces, maps, wideKeys, modest, calm, conditions, laid).
  DERIVED. THE GIVEN ROWS OF THIS SEAT. 8 by the template 'for every input the law returns true; each argument reads behind the call as it read before'; 0 by the template 'total and deterministic' (their statements: YthidaoemonjemabTotals.lean).
  GIVEN WITH THE SEED: the statements are not yours to turn. If you find one false, say at which input.
  Laid BY PROGRAM, IN A SANDBOX (cutbox-rows.mjs): the forced cells as the released guide's own fill.sh prints them over the translation 560a48760dc518b2… (all of the seat's roots in one cut). By AI agents, Wed Nov 11 2026. No macro, syntax, notation, axiom, sorry.
-/
import Derived.Test.YthidaoemonjemabChecked
import GoSem.Claim
import GoSem.ClaimJoined
import GoSem.ClaimMapViews
import Derived.JoinedTies
import Derived.KernelRfl
namespace Go.Proofs.Ythidaoemonjemab
/- THE CELL 'sum', in the pinned program and in every row, IS THE sha256 OF THE DUMP (.gsa) THAT YthidaoemonjemabProg.lean LOADS. Nothing in Lean hashes anything: it is a label: what it is worth is what the hold of that sum in a sandbox is worth. -/
noncomputable def Try.pinned : Pinned := { name := "ythidaoemonjemab", sum := "560a48760dc518b2cbe746359b0eb8b65282a6f1d41d803419f55d06ebce2f37", checked := Try.checked }
namespace Rows
def none {H : Type} : Left H := { results := [], args := [] }

/-- 'laws.FnExactPeakHour': WHATEVER THE INPUT: true; the input reads as it did. -/
def fnExactPeakHourSpec : ChangeSpec := { name := "fnExactPeakHour", fn := fun _ => fun
  | [d1, d2] => { results := [.lit (.bool true)], args := [d1, d2] }
  | _ => none }
def fnExactPeakHourRow : OpenClaim := { program := "ythidaoemonjemab", sum := "560a48760dc518b2cbe746359b0eb8b65282a6f1d41d803419f55d06ebce2f37", func := "loop.example/g01011/laws.FnExactPeakHour", spec := "fnExactPeakHour", unfollowed := true, recurses := true, apart := false }
def FnExactPeakHourSaid : Prop := fnExactPeakHourRow.holds Try.pinned (OpenSpec.ofChange fnExactPeakHourSpec)

/-- ITS FALSE NEIGHBOUR: 'it returns false'. Refute it at one input. -/
def fnExactPeakHourWrong : ChangeSpec := { name := "fnExactPeakHour", fn := fun _ => fun
  | [d1, d2] => { results := [.lit (.bool false)], args := [d1, d2] }
  | _ => none }
def FnExactPeakHourWrongFalsely : Prop := fnExactPeakHourRow.holds Try.pinned (OpenSpec.ofChange fnExactPeakHourWrong)

/-- 'laws.FnExactValidReadings': WHATEVER THE INPUT: true; the input reads as it did. -/
def fnExactValidReadingsSpec : ChangeSpec := { name := "fnExactValidReadings", fn := fun _ => fun
  | [d] => { results := [.lit (.bool true)], args := [d] }
  | _ => none }
def fnExactValidReadingsRow : OpenClaim := { program := "ythidaoemonjemab", sum := "560a48760dc518b2cbe746359b0eb8b65282a6f1d41d803419f55d06ebce2f37", func := "loop.example/g01011/laws.FnExactValidReadings", spec := "fnExactValidReadings", unfollowed := true, recurses := true, apart := false }
def FnExactValidReadingsSaid : Prop := fnExactValidReadingsRow.holds Try.pinned (OpenSpec.ofChange fnExactValidReadingsSpec)

/-- ITS FALSE NEIGHBOUR: 'it returns false'. Refute it at one input. -/
def fnExactValidReadingsWrong : ChangeSpec := { name := "fnExactValidReadings", fn := fun _ => fun
  | [d] => { results := [.lit (.bool false)], args := [d] }
  | _ => none }
def FnExactValidReadingsWrongFalsely : Prop := fnExactValidReadingsRow.holds Try.pinned (OpenSpec.ofChange fnExactValidReadingsWrong)

/-- 'laws.FnExactAddReading': WHATEVER THE INPUT: true; the input reads as it did. -/
def fnExactAddReadingSpec : ChangeSpec := { name := "fnExactAddReading", fn := fun _ => fun
  | [d1, d2] => { results := [.lit (.bool true)], args := [d1, d2] }
  | _ => none }
def fnExactAddReadingRow : OpenClaim := { program := "ythidaoemonjemab", sum := "560a48760dc518b2cbe746359b0eb8b65282a6f1d41d803419f55d06ebce2f37", func := "loop.example/g01011/laws.FnExactAddReading", spec := "fnExactAddReading", inPlace := ["slices.overlaps[loop.example/g01011/impl.Reading]"], unfollowed := true, recurses := true, apart := false }
def FnExactAddReadingSaid : Prop := fnExactAddReadingRow.holds Try.pinned (OpenSpec.ofChange fnExactAddReadingSpec)

/-- ITS FALSE NEIGHBOUR: 'it returns false'. Refute it at one input. -/
def fnExactAddReadingWrong : ChangeSpec := { name := "fnExactAddReading", fn := fun _ => fun
  | [d1, d2] => { results := [.lit (.bool false)], args := [d1, d2] }
  | _ => none }
def FnExactAddReadingWrongFalsely : Prop := fnExactAddReadingRow.holds Try.pinned (OpenSpec.ofChange fnExactAddReadingWrong)

/-- 'laws.FnExactPowersOf': WHATEVER THE INPUT: true; the input reads as it did. -/
def fnExactPowersOfSpec : ChangeSpec := { name := "fnExactPowersOf", fn := fun _ => fun
  | [d] => { results := [.lit (.bool true)], args := [d] }
  | _ => none }
def fnExactPowersOfRow : OpenClaim := { program := "ythidaoemonjemab", sum := "560a48760dc518b2cbe746359b0eb8b65282a6f1d41d803419f55d06ebce2f37", func := "loop.example/g01011/laws.FnExactPowersOf", spec := "fnExactPowersOf", unfollowed := true, recurses := true, apart := false }
def FnExactPowersOfSaid : Prop := fnExactPowersOfRow.holds Try.pinned (OpenSpec.ofChange fnExactPowersOfSpec)

/-- ITS FALSE NEIGHBOUR: 'it returns false'. Refute it at one input. -/
def fnExactPowersOfWrong : ChangeSpec := { name := "fnExactPowersOf", fn := fun _ => fun
  | [d] => { results := [.lit (.bool false)], args := [d] }
  | _ => none }
def FnExactPowersOfWrongFalsely : Prop := fnExactPowersOfRow.holds Try.pinned (OpenSpec.ofChange fnExactPowersOfWrong)

/-- 'laws.FnExactOddReadings': WHATEVER THE INPUT: true; the input reads as it did. -/
def fnExactOddReadingsSpec : ChangeSpec := { name := "fnExactOddReadings", fn := fun _ => fun
  | [d1, d2] => { results := [.lit (.bool true)], args := [d1, d2] }
  | _ => none }
def fnExactOddReadingsRow : OpenClaim := { program := "ythidaoemonjemab", sum := "560a48760dc518b2cbe746359b0eb8b65282a6f1d41d803419f55d06ebce2f37", func := "loop.example/g01011/laws.FnExactOddReadings", spec := "fnExactOddReadings", unfollowed := true, recurses := true, apart := false }
def FnExactOddReadingsSaid : Prop := fnExactOddReadingsRow.holds Try.pinned (OpenSpec.ofChange fnExactOddReadingsSpec)

/-- ITS FALSE NEIGHBOUR: 'it returns false'. Refute it at one input. -/
def fnExactOddReadingsWrong : ChangeSpec := { name := "fnExactOddReadings", fn := fun _ => fun
  | [d1, d2] => { results := [.lit (.bool false)], args := [d1, d2] }
  | _ => none }
def FnExactOddReadingsWrongFalsely : Prop := fnExactOddReadingsRow.holds Try.pinned (OpenSpec.ofChange fnExactOddReadingsWrong)

/-- 'laws.FnExactMissingHours': WHATEVER THE INPUT: true; the input reads as it did. -/
def fnExactMissingHoursSpec : ChangeSpec := { name := "fnExactMissingHours", fn := fun _ => fun
  | [d1, d2] => { results := [.lit (.bool true)], args := [d1, d2] }
  | _ => none }
def fnExactMissingHoursRow : OpenClaim := { program := "ythidaoemonjemab", sum := "560a48760dc518b2cbe746359b0eb8b65282a6f1d41d803419f55d06ebce2f37", func := "loop.example/g01011/laws.FnExactMissingHours", spec := "fnExactMissingHours", unfollowed := true, recurses := true, apart := false }
def FnExactMissingHoursSaid : Prop := fnExactMissingHoursRow.holds Try.pinned (OpenSpec.ofChange fnExactMissingHoursSpec)

/-- ITS FALSE NEIGHBOUR: 'it returns false'. Refute it at one input. -/
def fnExactMissingHoursWrong : ChangeSpec := { name := "fnExactMissingHours", fn := fun _ => fun
  | [d1, d2] => { results := [.lit (.bool false)], args := [d1, d2] }
  | _ => none }
def FnExactMissingHoursWrongFalsely : Prop := fnExactMissingHoursRow.holds Try.pinned (OpenSpec.ofChange fnExactMissingHoursWrong)

/-- 'laws.FnExactForecastError': WHATEVER THE INPUT: true; the input reads as it did. -/
def fnExactForecastErrorSpec : ChangeSpec := { name := "fnExactForecastError", fn := fun _ => fun
  | [d1, d2] => { results := [.lit (.bool true)], args := [d1, d2] }
  | _ => none }
def fnExactForecastErrorRow : OpenClaim := { program := "ythidaoemonjemab", sum := "560a48760dc518b2cbe746359b0eb8b65282a6f1d41d803419f55d06ebce2f37", func := "loop.example/g01011/laws.FnExactForecastError", spec := "fnExactForecastError", unfollowed := true, recurses := true, apart := false }
def FnExactForecastErrorSaid : Prop := fnExactForecastErrorRow.holds Try.pinned (OpenSpec.ofChange fnExactForecastErrorSpec)

/-- ITS FALSE NEIGHBOUR: 'it returns false'. Refute it at one input. -/
def fnExactForecastErrorWrong : ChangeSpec := { name := "fnExactForecastError", fn := fun _ => fun
  | [d1, d2] => { results := [.lit (.bool false)], args := [d1, d2] }
  | _ => none }
def FnExactForecastErrorWrongFalsely : Prop := fnExactForecastErrorRow.holds Try.pinned (OpenSpec.ofChange fnExactForecastErrorWrong)

/-- 'laws.FnExactBestScale': WHATEVER THE INPUT: true; the input reads as it did. -/
def fnExactBestScaleSpec : ChangeSpec := { name := "fnExactBestScale", fn := fun _ => fun
  | [d1, d2] => { results := [.lit (.bool true)], args := [d1, d2] }
  | _ => none }
def fnExactBestScaleRow : OpenClaim := { program := "ythidaoemonjemab", sum := "560a48760dc518b2cbe746359b0eb8b65282a6f1d41d803419f55d06ebce2f37", func := "loop.example/g01011/laws.FnExactBestScale", spec := "fnExactBestScale", unfollowed := true, recurses := true, apart := false }
def FnExactBestScaleSaid : Prop := fnExactBestScaleRow.holds Try.pinned (OpenSpec.ofChange fnExactBestScaleSpec)

/-- ITS FALSE NEIGHBOUR: 'it returns false'. Refute it at one input. -/
def fnExactBestScaleWrong : ChangeSpec := { name := "fnExactBestScale", fn := fun _ => fun
  | [d1, d2] => { results := [.lit (.bool false)], args := [d1, d2] }
  | _ => none }
def FnExactBestScaleWrongFalsely : Prop := fnExactBestScaleRow.holds Try.pinned (OpenSpec.ofChange fnExactBestScaleWrong)

/- THE SECOND FORM. 'bulk': how many values and letters a reading holds, each counted each time it is reached (what is shared counts as often as it is met; a slice's spare places count too). A statement '..UptoSaid' is the law's where the arguments, and the package variables that the reading takes, are together of bulk at most 1048576: NARROWER than '..Said'. Prove '..Said' where nothing that the law and all that it calls make is longer than what came in: it says more and counts as full. Else prove '..UptoSaid'. A law counts once. -/
mutual
def uptoBulk {H : Type} : DataW H → Nat
  | .lit (.string bytes) => bytes.length + 1
  | .lit _ => 1
  | .nil => 1
  | .ptr d => uptoBulk d + 1
  | .slice elems spare => uptoBulkAll elems + uptoBulkAll spare + 1
  | .agg parts => uptoBulkAll parts + 1
  | .iface _ d => uptoBulk d + 1
  | .map entries => uptoBulkEntries entries + 1
  | .held _ => 1
def uptoBulkAll {H : Type} : List (DataW H) → Nat
  | [] => 0
  | d :: r => uptoBulk d + uptoBulkAll r
def uptoBulkEntries {H : Type} : List (Lit × DataW H) → Nat
  | [] => 0
  | x :: r => uptoBulkEntry x + uptoBulkEntries r
def uptoBulkEntry {H : Type} : Lit × DataW H → Nat
  | (.string bytes, d) => bytes.length + uptoBulk d + 1
  | (_, d) => uptoBulk d + 1
 end
def uptoSmall : (H : Type) → List (DataW H) → Bool := fun _ ds => decide (uptoBulkAll ds ≤ 1048576)
def OpenSpec.upto (s : _root_.Go.ChangeSpec) : _root_.Go.OpenSpec := { _root_.Go.OpenSpec.ofChange s with cond := some uptoSmall }

/-- 'laws.FnExactPeakHour', WHERE WHAT IT READS IS OF BULK AT MOST 1048576: true; the input reads as it did. -/
def fnExactPeakHourUptoRow : OpenClaim := { program := "ythidaoemonjemab", sum := "560a48760dc518b2cbe746359b0eb8b65282a6f1d41d803419f55d06ebce2f37", func := "loop.example/g01011/laws.FnExactPeakHour", spec := "fnExactPeakHour", unfollowed := true, recurses := true, apart := false, narrowed := true }
def FnExactPeakHourUptoSaid : Prop := fnExactPeakHourUptoRow.holds Try.pinned (OpenSpec.upto fnExactPeakHourSpec)

/-- 'laws.FnExactValidReadings', WHERE WHAT IT READS IS OF BULK AT MOST 1048576: true; the input reads as it did. -/
def fnExactValidReadingsUptoRow : OpenClaim := { program := "ythidaoemonjemab", sum := "560a48760dc518b2cbe746359b0eb8b65282a6f1d41d803419f55d06ebce2f37", func := "loop.example/g01011/laws.FnExactValidReadings", spec := "fnExactValidReadings", unfollowed := true, recurses := true, apart := false, narrowed := true }
def FnExactValidReadingsUptoSaid : Prop := fnExactValidReadingsUptoRow.holds Try.pinned (OpenSpec.upto fnExactValidReadingsSpec)

/-- 'laws.FnExactAddReading', WHERE WHAT IT READS IS OF BULK AT MOST 1048576: true; the input reads as it did. -/
def fnExactAddReadingUptoRow : OpenClaim := { program := "ythidaoemonjemab", sum := "560a48760dc518b2cbe746359b0eb8b65282a6f1d41d803419f55d06ebce2f37", func := "loop.example/g01011/laws.FnExactAddReading", spec := "fnExactAddReading", inPlace := ["slices.overlaps[loop.example/g01011/impl.Reading]"], unfollowed := true, recurses := true, apart := false, narrowed := true }
def FnExactAddReadingUptoSaid : Prop := fnExactAddReadingUptoRow.holds Try.pinned (OpenSpec.upto fnExactAddReadingSpec)

/-- 'laws.FnExactPowersOf', WHERE WHAT IT READS IS OF BULK AT MOST 1048576: true; the input reads as it did. -/
def fnExactPowersOfUptoRow : OpenClaim := { program := "ythidaoemonjemab", sum := "560a48760dc518b2cbe746359b0eb8b65282a6f1d41d803419f55d06ebce2f37", func := "loop.example/g01011/laws.FnExactPowersOf", spec := "fnExactPowersOf", unfollowed := true, recurses := true, apart := false, narrowed := true }
def FnExactPowersOfUptoSaid : Prop := fnExactPowersOfUptoRow.holds Try.pinned (OpenSpec.upto fnExactPowersOfSpec)

/-- 'laws.FnExactOddReadings', WHERE WHAT IT READS IS OF BULK AT MOST 1048576: true; the input reads as it did. -/
def fnExactOddReadingsUptoRow : OpenClaim := { program := "ythidaoemonjemab", sum := "560a48760dc518b2cbe746359b0eb8b65282a6f1d41d803419f55d06ebce2f37", func := "loop.example/g01011/laws.FnExactOddReadings", spec := "fnExactOddReadings", unfollowed := true, recurses := true, apart := false, narrowed := true }
def FnExactOddReadingsUptoSaid : Prop := fnExactOddReadingsUptoRow.holds Try.pinned (OpenSpec.upto fnExactOddReadingsSpec)

/-- 'laws.FnExactMissingHours', WHERE WHAT IT READS IS OF BULK AT MOST 1048576: true; the input reads as it did. -/
def fnExactMissingHoursUptoRow : OpenClaim := { program := "ythidaoemonjemab", sum := "560a48760dc518b2cbe746359b0eb8b65282a6f1d41d803419f55d06ebce2f37", func := "loop.example/g01011/laws.FnExactMissingHours", spec := "fnExactMissingHours", unfollowed := true, recurses := true, apart := false, narrowed := true }
def FnExactMissingHoursUptoSaid : Prop := fnExactMissingHoursUptoRow.holds Try.pinned (OpenSpec.upto fnExactMissingHoursSpec)

/-- 'laws.FnExactForecastError', WHERE WHAT IT READS IS OF BULK AT MOST 1048576: true; the input reads as it did. -/
def fnExactForecastErrorUptoRow : OpenClaim := { program := "ythidaoemonjemab", sum := "560a48760dc518b2cbe746359b0eb8b65282a6f1d41d803419f55d06ebce2f37", func := "loop.example/g01011/laws.FnExactForecastError", spec := "fnExactForecastError", unfollowed := true, recurses := true, apart := false, narrowed := true }
def FnExactForecastErrorUptoSaid : Prop := fnExactForecastErrorUptoRow.holds Try.pinned (OpenSpec.upto fnExactForecastErrorSpec)

/-- 'laws.FnExactBestScale', WHERE WHAT IT READS IS OF BULK AT MOST 1048576: true; the input reads as it did. -/
def fnExactBestScaleUptoRow : OpenClaim := { program := "ythidaoemonjemab", sum := "560a48760dc518b2cbe746359b0eb8b65282a6f1d41d803419f55d06ebce2f37", func := "loop.example/g01011/laws.FnExactBestScale", spec := "fnExactBestScale", unfollowed := true, recurses := true, apart := false, narrowed := true }
def FnExactBestScaleUptoSaid : Prop := fnExactBestScaleUptoRow.holds Try.pinned (OpenSpec.upto fnExactBestScaleSpec)

end Rows
end Go.Proofs.Ythidaoemonjemab
