/-
  What the lists of package-level variables give: the table of powers of ten, the two errors of the library's reader of numbers.
-/
import Derived.Test.YtmopnkkpcgiafabDoorD3
import Derived.Stop.LaidErr
import Derived.MakeChecks
namespace Go.Proofs.YtmopnkkpcgiafabDoor
open Go.ChangeShapes Go.WideShapes Go.ChangeAt Go.RowKit

theorem gPow : Tryd.prog.globalNamed "internal/strconv.uint64pow10" = some 1 := by kernel_rfl
theorem tPow : (Tryd.prog.globals[1]?).map (·.type) = some 95 := by kernel_rfl
theorem cPow : Tryd.prog.cellsOf 95 = 20 := by kernel_rfl
theorem cU64 : Tryd.prog.cellsOf 87 = 1 := by kernel_rfl
theorem powTab_laid {W : World} {r : List (String × DataW Unit)} (h : laidMet Tryd.prog (("internal/strconv.uint64pow10", Lib.tabData .u64 Lib.pow10Tab) :: r) W) : PowTab W :=
  powTab_of gPow (Lib.tabIs_of_head gPow tPow Tryd.underlying95 Tryd.underlying87 cU64 cPow h)

theorem cStr : Tryd.prog.cellsOf 9 = 1 := by kernel_rfl
end Go.Proofs.YtmopnkkpcgiafabDoor
