/-
  What the lists of package-level variables give: the table of powers of ten, the two errors of the library's reader of numbers.
-/
import Derived.Test.YtkbkmpcdidhagacDoorD3
import Derived.Stop.LaidErr
import Derived.MakeChecks
namespace Go.Proofs.YtkbkmpcdidhagacDoor
open Go.ChangeShapes Go.WideShapes Go.ChangeAt Go.RowKit

theorem gPow : Tryd.prog.globalNamed "internal/strconv.uint64pow10" = some 3 := by kernel_rfl
theorem tPow : (Tryd.prog.globals[3]?).map (·.type) = some 125 := by kernel_rfl
theorem cPow : Tryd.prog.cellsOf 125 = 20 := by kernel_rfl
theorem cU64 : Tryd.prog.cellsOf 104 = 1 := by kernel_rfl
theorem powTab_laid {W : World} {r : List (String × DataW Unit)} (h : laidMet Tryd.prog (("internal/strconv.uint64pow10", Lib.tabData .u64 Lib.pow10Tab) :: r) W) : PowTab W :=
  powTab_of gPow (Lib.tabIs_of_head gPow tPow Tryd.underlying125 Tryd.underlying104 cU64 cPow h)

theorem gSyn : Tryd.prog.globalNamed "strconv.ErrSyntax" = some 1 := by kernel_rfl
theorem gRan : Tryd.prog.globalNamed "strconv.ErrRange" = some 2 := by kernel_rfl
theorem tSyn : (Tryd.prog.globals[1]?).map (·.type) = some 79 := by kernel_rfl
theorem tRan : (Tryd.prog.globals[2]?).map (·.type) = some 79 := by kernel_rfl
theorem rowErr (u : TypeId) (h : Tryd.prog.typeName? 3 u = some "*errors.errorString") : u = 133 :=
  typeName_ptr_named (nm := "errors.errorString") (by kernel_rfl) (by kernel_rfl) (by decide) u h
theorem cErr : Tryd.prog.cellsOf 135 = 1 := by kernel_rfl
theorem cStr : Tryd.prog.cellsOf 9 = 1 := by kernel_rfl
theorem errVars_laid {W : World} {x y : List UInt8} {r : List (String × DataW Unit)} (h : laidMet Tryd.prog (("strconv.ErrRange", .iface "*errors.errorString" (.ptr (.agg [.lit (.string x)]))) :: ("strconv.ErrSyntax", .iface "*errors.errorString" (.ptr (.agg [.lit (.string y)]))) :: r) W) : ErrVars W := by
  obtain ⟨a1, s1, hv1, hc1, _, _⟩ := laid_sentinel h gRan tRan Tryd.underlying79 rowErr Tryd.underlying133 Tryd.underlying135 rfl rfl Tryd.underlying9 cErr cStr
  obtain ⟨a2, s2, hv2, hc2, _, _⟩ := laid_sentinel h.tail gSyn tSyn Tryd.underlying79 rowErr Tryd.underlying133 Tryd.underlying135 rfl rfl Tryd.underlying9 cErr cStr
  have b1 := World.block_lt_of_cell? W _ (World.var?_cell gRan hv1 0)
  have b2 := World.block_lt_of_cell? W _ (World.var?_cell gSyn hv2 0)
  exact ⟨_, _, _, _, fun w' hb => ⟨var_below hb gSyn b2 hv2, var_below hb gRan b1 hv1⟩⟩
end Go.Proofs.YtkbkmpcdidhagacDoor
