/-
  No cell of these rows narrows 'for every input' (looked for: loops, veiled, ifaces, maps, wideKeys, modest, calm, conditions, laid).
  DERIVED. THE GIVEN ROWS OF THIS SEAT. 10 by the template 'for every input the law returns true; each argument reads behind the call as it read before'; 0 by the template 'total and deterministic' (their statements: YtnepehdfkaegbaaTotals.lean).
  GIVEN WITH THE SEED: the statements are not yours to turn. If you find one false, say at which input.
  Laid BY PROGRAM, IN A SANDBOX (cutbox-rows.mjs): the forced cells as the released guide's own fill.sh prints them over the translation d04f0ac5575fbe3b… (all of the seat's roots in one cut). By AI agents, Wed Nov 11 2026. No macro, syntax, notation, axiom, sorry.
-/
import Derived.Test.YtnepehdfkaegbaaChecked
import GoSem.Claim
import GoSem.ClaimJoined
import GoSem.ClaimMapViews
import Derived.JoinedTies
import Derived.KernelRfl
namespace Go.Proofs.Ytnepehdfkaegbaa
/- THE CELL 'sum', in the pinned program and in every row, IS THE sha256 OF THE DUMP (.gsa) THAT YtnepehdfkaegbaaProg.lean LOADS. Nothing in Lean hashes anything: it is a label: what it is worth is what the hold of that sum in a sandbox is worth. -/
noncomputable def Try.pinned : Pinned := { name := "ytnepehdfkaegbaa", sum := "d04f0ac5575fbe3b4b24d48375af52f9f2d5f68d9111b808636c33a5d0e05a12", checked := Try.checked }
namespace Rows
def none {H : Type} : Left H := { results := [], args := [] }

/-- 'laws.FnForecasts': WHATEVER THE INPUT: true; the input reads as it did. -/
def fnForecastsSpec : ChangeSpec := { name := "fnForecasts", fn := fun _ => fun
  | [d1, d2] => { results := [.lit (.bool true)], args := [d1, d2] }
  | _ => none }
def fnForecastsRow : OpenClaim := { program := "ytnepehdfkaegbaa", sum := "d04f0ac5575fbe3b4b24d48375af52f9f2d5f68d9111b808636c33a5d0e05a12", func := "loop.example/g01011/laws.FnForecasts", spec := "fnForecasts", unfollowed := true, recurses := true, apart := false }
def FnForecastsSaid : Prop := fnForecastsRow.holds Try.pinned (OpenSpec.ofChange fnForecastsSpec)

/-- ITS FALSE NEIGHBOUR: 'it returns false'. Refute it at one input. -/
def fnForecastsWrong : ChangeSpec := { name := "fnForecasts", fn := fun _ => fun
  | [d1, d2] => { results := [.lit (.bool false)], args := [d1, d2] }
  | _ => none }
def FnForecastsWrongFalsely : Prop := fnForecastsRow.holds Try.pinned (OpenSpec.ofChange fnForecastsWrong)

/-- 'laws.FnExactValidBuildings': WHATEVER THE INPUT: true; the input reads as it did. -/
def fnExactValidBuildingsSpec : ChangeSpec := { name := "fnExactValidBuildings", fn := fun _ => fun
  | [d] => { results := [.lit (.bool true)], args := [d] }
  | _ => none }
def fnExactValidBuildingsRow : OpenClaim := { program := "ytnepehdfkaegbaa", sum := "d04f0ac5575fbe3b4b24d48375af52f9f2d5f68d9111b808636c33a5d0e05a12", func := "loop.example/g01011/laws.FnExactValidBuildings", spec := "fnExactValidBuildings", unfollowed := true, recurses := true, apart := false }
def FnExactValidBuildingsSaid : Prop := fnExactValidBuildingsRow.holds Try.pinned (OpenSpec.ofChange fnExactValidBuildingsSpec)

/-- ITS FALSE NEIGHBOUR: 'it returns false'. Refute it at one input. -/
def fnExactValidBuildingsWrong : ChangeSpec := { name := "fnExactValidBuildings", fn := fun _ => fun
  | [d] => { results := [.lit (.bool false)], args := [d] }
  | _ => none }
def FnExactValidBuildingsWrongFalsely : Prop := fnExactValidBuildingsRow.holds Try.pinned (OpenSpec.ofChange fnExactValidBuildingsWrong)

/-- 'laws.FnExactLoadOf': WHATEVER THE INPUT: true; the input reads as it did. -/
def fnExactLoadOfSpec : ChangeSpec := { name := "fnExactLoadOf", fn := fun _ => fun
  | [d1, d2, d3] => { results := [.lit (.bool true)], args := [d1, d2, d3] }
  | _ => none }
def fnExactLoadOfRow : OpenClaim := { program := "ytnepehdfkaegbaa", sum := "d04f0ac5575fbe3b4b24d48375af52f9f2d5f68d9111b808636c33a5d0e05a12", func := "loop.example/g01011/laws.FnExactLoadOf", spec := "fnExactLoadOf", apart := false }
def FnExactLoadOfSaid : Prop := fnExactLoadOfRow.holds Try.pinned (OpenSpec.ofChange fnExactLoadOfSpec)

/-- ITS FALSE NEIGHBOUR: 'it returns false'. Refute it at one input. -/
def fnExactLoadOfWrong : ChangeSpec := { name := "fnExactLoadOf", fn := fun _ => fun
  | [d1, d2, d3] => { results := [.lit (.bool false)], args := [d1, d2, d3] }
  | _ => none }
def FnExactLoadOfWrongFalsely : Prop := fnExactLoadOfRow.holds Try.pinned (OpenSpec.ofChange fnExactLoadOfWrong)

/-- 'laws.FnExactDayLoads': WHATEVER THE INPUT: true; the input reads as it did. -/
def fnExactDayLoadsSpec : ChangeSpec := { name := "fnExactDayLoads", fn := fun _ => fun
  | [d1, d2] => { results := [.lit (.bool true)], args := [d1, d2] }
  | _ => none }
def fnExactDayLoadsRow : OpenClaim := { program := "ytnepehdfkaegbaa", sum := "d04f0ac5575fbe3b4b24d48375af52f9f2d5f68d9111b808636c33a5d0e05a12", func := "loop.example/g01011/laws.FnExactDayLoads", spec := "fnExactDayLoads", unfollowed := true, recurses := true, apart := false }
def FnExactDayLoadsSaid : Prop := fnExactDayLoadsRow.holds Try.pinned (OpenSpec.ofChange fnExactDayLoadsSpec)

/-- ITS FALSE NEIGHBOUR: 'it returns false'. Refute it at one input. -/
def fnExactDayLoadsWrong : ChangeSpec := { name := "fnExactDayLoads", fn := fun _ => fun
  | [d1, d2] => { results := [.lit (.bool false)], args := [d1, d2] }
  | _ => none }
def FnExactDayLoadsWrongFalsely : Prop := fnExactDayLoadsRow.holds Try.pinned (OpenSpec.ofChange fnExactDayLoadsWrong)

/-- 'laws.FnExactForecastOf': WHATEVER THE INPUT: true; the input reads as it did. -/
def fnExactForecastOfSpec : ChangeSpec := { name := "fnExactForecastOf", fn := fun _ => fun
  | [d1, d2] => { results := [.lit (.bool true)], args := [d1, d2] }
  | _ => none }
def fnExactForecastOfRow : OpenClaim := { program := "ytnepehdfkaegbaa", sum := "d04f0ac5575fbe3b4b24d48375af52f9f2d5f68d9111b808636c33a5d0e05a12", func := "loop.example/g01011/laws.FnExactForecastOf", spec := "fnExactForecastOf", unfollowed := true, recurses := true, apart := false }
def FnExactForecastOfSaid : Prop := fnExactForecastOfRow.holds Try.pinned (OpenSpec.ofChange fnExactForecastOfSpec)

/-- ITS FALSE NEIGHBOUR: 'it returns false'. Refute it at one input. -/
def fnExactForecastOfWrong : ChangeSpec := { name := "fnExactForecastOf", fn := fun _ => fun
  | [d1, d2] => { results := [.lit (.bool false)], args := [d1, d2] }
  | _ => none }
def FnExactForecastOfWrongFalsely : Prop := fnExactForecastOfRow.holds Try.pinned (OpenSpec.ofChange fnExactForecastOfWrong)

/-- 'laws.FnExactNodeLoads': WHATEVER THE INPUT: true; the input reads as it did. -/
def fnExactNodeLoadsSpec : ChangeSpec := { name := "fnExactNodeLoads", fn := fun _ => fun
  | [d1, d2, d3, d4] => { results := [.lit (.bool true)], args := [d1, d2, d3, d4] }
  | _ => none }
def fnExactNodeLoadsRow : OpenClaim := { program := "ytnepehdfkaegbaa", sum := "d04f0ac5575fbe3b4b24d48375af52f9f2d5f68d9111b808636c33a5d0e05a12", func := "loop.example/g01011/laws.FnExactNodeLoads", spec := "fnExactNodeLoads", unfollowed := true, recurses := true, apart := false }
def FnExactNodeLoadsSaid : Prop := fnExactNodeLoadsRow.holds Try.pinned (OpenSpec.ofChange fnExactNodeLoadsSpec)

/-- ITS FALSE NEIGHBOUR: 'it returns false'. Refute it at one input. -/
def fnExactNodeLoadsWrong : ChangeSpec := { name := "fnExactNodeLoads", fn := fun _ => fun
  | [d1, d2, d3, d4] => { results := [.lit (.bool false)], args := [d1, d2, d3, d4] }
  | _ => none }
def FnExactNodeLoadsWrongFalsely : Prop := fnExactNodeLoadsRow.holds Try.pinned (OpenSpec.ofChange fnExactNodeLoadsWrong)

/-- 'laws.FnExactHeatOf': WHATEVER THE INPUT: true; the input reads as it did. -/
def fnExactHeatOfSpec : ChangeSpec := { name := "fnExactHeatOf", fn := fun _ => fun
  | [d1, d2] => { results := [.lit (.bool true)], args := [d1, d2] }
  | _ => none }
def fnExactHeatOfRow : OpenClaim := { program := "ytnepehdfkaegbaa", sum := "d04f0ac5575fbe3b4b24d48375af52f9f2d5f68d9111b808636c33a5d0e05a12", func := "loop.example/g01011/laws.FnExactHeatOf", spec := "fnExactHeatOf", unfollowed := true, recurses := true, apart := false }
def FnExactHeatOfSaid : Prop := fnExactHeatOfRow.holds Try.pinned (OpenSpec.ofChange fnExactHeatOfSpec)

/-- ITS FALSE NEIGHBOUR: 'it returns false'. Refute it at one input. -/
def fnExactHeatOfWrong : ChangeSpec := { name := "fnExactHeatOf", fn := fun _ => fun
  | [d1, d2] => { results := [.lit (.bool false)], args := [d1, d2] }
  | _ => none }
def FnExactHeatOfWrongFalsely : Prop := fnExactHeatOfRow.holds Try.pinned (OpenSpec.ofChange fnExactHeatOfWrong)

/-- 'laws.FnExactPeakHour': WHATEVER THE INPUT: true; the input reads as it did. -/
def fnExactPeakHourSpec : ChangeSpec := { name := "fnExactPeakHour", fn := fun _ => fun
  | [d1, d2] => { results := [.lit (.bool true)], args := [d1, d2] }
  | _ => none }
def fnExactPeakHourRow : OpenClaim := { program := "ytnepehdfkaegbaa", sum := "d04f0ac5575fbe3b4b24d48375af52f9f2d5f68d9111b808636c33a5d0e05a12", func := "loop.example/g01011/laws.FnExactPeakHour", spec := "fnExactPeakHour", unfollowed := true, recurses := true, apart := false }
def FnExactPeakHourSaid : Prop := fnExactPeakHourRow.holds Try.pinned (OpenSpec.ofChange fnExactPeakHourSpec)

/-- ITS FALSE NEIGHBOUR: 'it returns false'. Refute it at one input. -/
def fnExactPeakHourWrong : ChangeSpec := { name := "fnExactPeakHour", fn := fun _ => fun
  | [d1, d2] => { results := [.lit (.bool false)], args := [d1, d2] }
  | _ => none }
def FnExactPeakHourWrongFalsely : Prop := fnExactPeakHourRow.holds Try.pinned (OpenSpec.ofChange fnExactPeakHourWrong)

/-- 'laws.FnExactWaterFor': WHATEVER THE INPUT: true; the input reads as it did. -/
def fnExactWaterForSpec : ChangeSpec := { name := "fnExactWaterFor", fn := fun _ => fun
  | [d1, d2, d3] => { results := [.lit (.bool true)], args := [d1, d2, d3] }
  | _ => none }
def fnExactWaterForRow : OpenClaim := { program := "ytnepehdfkaegbaa", sum := "d04f0ac5575fbe3b4b24d48375af52f9f2d5f68d9111b808636c33a5d0e05a12", func := "loop.example/g01011/laws.FnExactWaterFor", spec := "fnExactWaterFor", apart := false }
def FnExactWaterForSaid : Prop := fnExactWaterForRow.holds Try.pinned (OpenSpec.ofChange fnExactWaterForSpec)

/-- ITS FALSE NEIGHBOUR: 'it returns false'. Refute it at one input. -/
def fnExactWaterForWrong : ChangeSpec := { name := "fnExactWaterFor", fn := fun _ => fun
  | [d1, d2, d3] => { results := [.lit (.bool false)], args := [d1, d2, d3] }
  | _ => none }
def FnExactWaterForWrongFalsely : Prop := fnExactWaterForRow.holds Try.pinned (OpenSpec.ofChange fnExactWaterForWrong)

/-- 'laws.FnExactOutdoorFor': WHATEVER THE INPUT: true; the input reads as it did. -/
def fnExactOutdoorForSpec : ChangeSpec := { name := "fnExactOutdoorFor", fn := fun _ => fun
  | [d1, d2, d3] => { results := [.lit (.bool true)], args := [d1, d2, d3] }
  | _ => none }
def fnExactOutdoorForRow : OpenClaim := { program := "ytnepehdfkaegbaa", sum := "d04f0ac5575fbe3b4b24d48375af52f9f2d5f68d9111b808636c33a5d0e05a12", func := "loop.example/g01011/laws.FnExactOutdoorFor", spec := "fnExactOutdoorFor", unfollowed := true, recurses := true, apart := false }
def FnExactOutdoorForSaid : Prop := fnExactOutdoorForRow.holds Try.pinned (OpenSpec.ofChange fnExactOutdoorForSpec)

/-- ITS FALSE NEIGHBOUR: 'it returns false'. Refute it at one input. -/
def fnExactOutdoorForWrong : ChangeSpec := { name := "fnExactOutdoorFor", fn := fun _ => fun
  | [d1, d2, d3] => { results := [.lit (.bool false)], args := [d1, d2, d3] }
  | _ => none }
def FnExactOutdoorForWrongFalsely : Prop := fnExactOutdoorForRow.holds Try.pinned (OpenSpec.ofChange fnExactOutdoorForWrong)

/- THE SECOND FORM. 'bulk': how many values and letters a reading holds, each counted each time it is reached (what is shared counts as often as it is met; a slice's spare places count too). A statement '..UptoSaid' is the law's where the arguments, and the package variables that the reading takes, are together of bulk at most 1048576: NARROWER than '..Said'. Prove '..Said' where nothing that the law and all that it calls make is longer than what came in: it says more and counts as full. Else prove '..UptoSaid'. A law counts once. -/
mutual
def uptoBulk {H : Type} : DataW H → Nat
  | .lit (.string bytes) => bytes.length + 1
  | .lit _ => 1
  | .nil => 1
  | .ptr d => uptoBulk d + 1
  | .slice elems spare => uptoBulkAll elems + uptoBulkAll spare + 1
  | .agg parts => uptoBulkAll parts + 1
  | .iface _ d => uptoBulk d + 1
  | .map entries => uptoBulkEntries entries + 1
  | .held _ => 1
def uptoBulkAll {H : Type} : List (DataW H) → Nat
  | [] => 0
  | d :: r => uptoBulk d + uptoBulkAll r
def uptoBulkEntries {H : Type} : List (Lit × DataW H) → Nat
  | [] => 0
  | x :: r => uptoBulkEntry x + uptoBulkEntries r
def uptoBulkEntry {H : Type} : Lit × DataW H → Nat
  | (.string bytes, d) => bytes.length + uptoBulk d + 1
  | (_, d) => uptoBulk d + 1
 end
def uptoSmall : (H : Type) → List (DataW H) → Bool := fun _ ds => decide (uptoBulkAll ds ≤ 1048576)
def OpenSpec.upto (s : _root_.Go.ChangeSpec) : _root_.Go.OpenSpec := { _root_.Go.OpenSpec.ofChange s with cond := some uptoSmall }

/-- 'laws.FnForecasts', WHERE WHAT IT READS IS OF BULK AT MOST 1048576: true; the input reads as it did. -/
def fnForecastsUptoRow : OpenClaim := { program := "ytnepehdfkaegbaa", sum := "d04f0ac5575fbe3b4b24d48375af52f9f2d5f68d9111b808636c33a5d0e05a12", func := "loop.example/g01011/laws.FnForecasts", spec := "fnForecasts", unfollowed := true, recurses := true, apart := false, narrowed := true }
def FnForecastsUptoSaid : Prop := fnForecastsUptoRow.holds Try.pinned (OpenSpec.upto fnForecastsSpec)

/-- 'laws.FnExactValidBuildings', WHERE WHAT IT READS IS OF BULK AT MOST 1048576: true; the input reads as it did. -/
def fnExactValidBuildingsUptoRow : OpenClaim := { program := "ytnepehdfkaegbaa", sum := "d04f0ac5575fbe3b4b24d48375af52f9f2d5f68d9111b808636c33a5d0e05a12", func := "loop.example/g01011/laws.FnExactValidBuildings", spec := "fnExactValidBuildings", unfollowed := true, recurses := true, apart := false, narrowed := true }
def FnExactValidBuildingsUptoSaid : Prop := fnExactValidBuildingsUptoRow.holds Try.pinned (OpenSpec.upto fnExactValidBuildingsSpec)

/-- 'laws.FnExactLoadOf', WHERE WHAT IT READS IS OF BULK AT MOST 1048576: true; the input reads as it did. -/
def fnExactLoadOfUptoRow : OpenClaim := { program := "ytnepehdfkaegbaa", sum := "d04f0ac5575fbe3b4b24d48375af52f9f2d5f68d9111b808636c33a5d0e05a12", func := "loop.example/g01011/laws.FnExactLoadOf", spec := "fnExactLoadOf", apart := false, narrowed := true }
def FnExactLoadOfUptoSaid : Prop := fnExactLoadOfUptoRow.holds Try.pinned (OpenSpec.upto fnExactLoadOfSpec)

/-- 'laws.FnExactDayLoads', WHERE WHAT IT READS IS OF BULK AT MOST 1048576: true; the input reads as it did. -/
def fnExactDayLoadsUptoRow : OpenClaim := { program := "ytnepehdfkaegbaa", sum := "d04f0ac5575fbe3b4b24d48375af52f9f2d5f68d9111b808636c33a5d0e05a12", func := "loop.example/g01011/laws.FnExactDayLoads", spec := "fnExactDayLoads", unfollowed := true, recurses := true, apart := false, narrowed := true }
def FnExactDayLoadsUptoSaid : Prop := fnExactDayLoadsUptoRow.holds Try.pinned (OpenSpec.upto fnExactDayLoadsSpec)

/-- 'laws.FnExactForecastOf', WHERE WHAT IT READS IS OF BULK AT MOST 1048576: true; the input reads as it did. -/
def fnExactForecastOfUptoRow : OpenClaim := { program := "ytnepehdfkaegbaa", sum := "d04f0ac5575fbe3b4b24d48375af52f9f2d5f68d9111b808636c33a5d0e05a12", func := "loop.example/g01011/laws.FnExactForecastOf", spec := "fnExactForecastOf", unfollowed := true, recurses := true, apart := false, narrowed := true }
def FnExactForecastOfUptoSaid : Prop := fnExactForecastOfUptoRow.holds Try.pinned (OpenSpec.upto fnExactForecastOfSpec)

/-- 'laws.FnExactNodeLoads', WHERE WHAT IT READS IS OF BULK AT MOST 1048576: true; the input reads as it did. -/
def fnExactNodeLoadsUptoRow : OpenClaim := { program := "ytnepehdfkaegbaa", sum := "d04f0ac5575fbe3b4b24d48375af52f9f2d5f68d9111b808636c33a5d0e05a12", func := "loop.example/g01011/laws.FnExactNodeLoads", spec := "fnExactNodeLoads", unfollowed := true, recurses := true, apart := false, narrowed := true }
def FnExactNodeLoadsUptoSaid : Prop := fnExactNodeLoadsUptoRow.holds Try.pinned (OpenSpec.upto fnExactNodeLoadsSpec)

/-- 'laws.FnExactHeatOf', WHERE WHAT IT READS IS OF BULK AT MOST 1048576: true; the input reads as it did. -/
def fnExactHeatOfUptoRow : OpenClaim := { program := "ytnepehdfkaegbaa", sum := "d04f0ac5575fbe3b4b24d48375af52f9f2d5f68d9111b808636c33a5d0e05a12", func := "loop.example/g01011/laws.FnExactHeatOf", spec := "fnExactHeatOf", unfollowed := true, recurses := true, apart := false, narrowed := true }
def FnExactHeatOfUptoSaid : Prop := fnExactHeatOfUptoRow.holds Try.pinned (OpenSpec.upto fnExactHeatOfSpec)

/-- 'laws.FnExactPeakHour', WHERE WHAT IT READS IS OF BULK AT MOST 1048576: true; the input reads as it did. -/
def fnExactPeakHourUptoRow : OpenClaim := { program := "ytnepehdfkaegbaa", sum := "d04f0ac5575fbe3b4b24d48375af52f9f2d5f68d9111b808636c33a5d0e05a12", func := "loop.example/g01011/laws.FnExactPeakHour", spec := "fnExactPeakHour", unfollowed := true, recurses := true, apart := false, narrowed := true }
def FnExactPeakHourUptoSaid : Prop := fnExactPeakHourUptoRow.holds Try.pinned (OpenSpec.upto fnExactPeakHourSpec)

/-- 'laws.FnExactWaterFor', WHERE WHAT IT READS IS OF BULK AT MOST 1048576: true; the input reads as it did. -/
def fnExactWaterForUptoRow : OpenClaim := { program := "ytnepehdfkaegbaa", sum := "d04f0ac5575fbe3b4b24d48375af52f9f2d5f68d9111b808636c33a5d0e05a12", func := "loop.example/g01011/laws.FnExactWaterFor", spec := "fnExactWaterFor", apart := false, narrowed := true }
def FnExactWaterForUptoSaid : Prop := fnExactWaterForUptoRow.holds Try.pinned (OpenSpec.upto fnExactWaterForSpec)

/-- 'laws.FnExactOutdoorFor', WHERE WHAT IT READS IS OF BULK AT MOST 1048576: true; the input reads as it did. -/
def fnExactOutdoorForUptoRow : OpenClaim := { program := "ytnepehdfkaegbaa", sum := "d04f0ac5575fbe3b4b24d48375af52f9f2d5f68d9111b808636c33a5d0e05a12", func := "loop.example/g01011/laws.FnExactOutdoorFor", spec := "fnExactOutdoorFor", unfollowed := true, recurses := true, apart := false, narrowed := true }
def FnExactOutdoorForUptoSaid : Prop := fnExactOutdoorForUptoRow.holds Try.pinned (OpenSpec.upto fnExactOutdoorForSpec)

end Rows
end Go.Proofs.Ytnepehdfkaegbaa
